/- Contracts of layer 9: verbs, directives. -/
import Derived.Test.YtbdcmnhfmkefdaaGreatDoorFmtA
import Derived.Test.YtbdcmnhfmkefdaaGreatDoorTabS
import Derived.Test.YtbdcmnhfmkefdaaGreatDoorNumC
import Derived.Laws.Rows
namespace Go.Proofs.YtbdcmnhfmkefdaaGreatDoor
open Go.RowKit M1 M2 M9
set_option linter.unusedVariables false
/-- The row of a verb: its letter, base, whether it has a sign, whether zeros can pad it. -/
def vrow (l b : Int) (s z : Bool) : List Value := [.int .u8 l, .int .i64 b, .bool s, .bool z]
def verbRows : List (List Value) := [vrow 100 10 true true, vrow 120 16 false true, vrow 88 16 false true, vrow 111 8 false true, vrow 102 0 true true, vrow 115 0 false false, vrow 99 0 false false, vrow 113 0 false false, vrow 103 0 true false]
def verbCells : Array Value := (verbRows.flatMap id).toArray
def verbLetters : List Nat := [100, 120, 88, 111, 102, 115, 99, 113, 103]
/-- What the variables of the library and the list of verbs hold. -/
structure E9 (w : World) : Prop where
  env : Env w
  vb : w.var? Tryz.prog "scripting/formatting.verbs" = some verbCells
theorem vb_lt {w : World} (h : w.var? Tryz.prog "scripting/formatting.verbs" = some verbCells) : 0 < w.heap.size := by
  have hg : Tryz.prog.globalNamed "scripting/formatting.verbs" = some 0 := by kernel_rfl
  unfold World.var? at h
  simp only [hg, Option.bind_some] at h
  rcases Nat.lt_or_ge 0 w.heap.size with h' | h'
  · exact h'
  · rw [Array.getElem?_eq_none h'] at h; simp at h
theorem E9.on {w w' : World} (h : E9 w) (hb : Below w.heap.size w w') : E9 w' := ⟨h.env.on hb, var?_below hb (by kernel_rfl) (vb_lt h.vb) h.vb⟩
theorem E9.alloc {w : World} (h : E9 w) (o : Obj) : E9 (w.alloc o) := h.on ((Below.refl _ _).alloc (Nat.le_refl _) o)
theorem vb_heap {w : World} (h : w.var? Tryz.prog "scripting/formatting.verbs" = some verbCells) : ∃ t fr, w.heap[0]? = some (.cells verbCells t fr) := by
  have hg : Tryz.prog.globalNamed "scripting/formatting.verbs" = some 0 := by kernel_rfl
  unfold World.var? at h
  simp only [hg, Option.bind_some] at h
  cases e : w.heap[0]? with
  | none => rw [e] at h; cases h
  | some o =>
    rw [e] at h
    cases o with
    | cells cs t fr => exact ⟨t, fr, by injection h with h; subst h; rfl⟩
    | _ => cases h
def vOf (n : Nat) : List Value := if n = 100 then vrow 100 10 true true else if n = 120 then vrow 120 16 false true else if n = 88 then vrow 88 16 false true else if n = 111 then vrow 111 8 false true else if n = 102 then vrow 102 0 true true else if n = 115 then vrow 115 0 false false else if n = 99 then vrow 99 0 false false else if n = 113 then vrow 113 0 false false else if n = 103 then vrow 103 0 true false else vrow 0 0 false false
theorem vHas_iff (c : UInt8) : isVerb c = true ↔ c.toNat ∈ verbLetters := by
  unfold isVerb verbLetters
  simp only [Bool.or_eq_true, beq_iff_eq, List.mem_cons, List.not_mem_nil, or_false]
  constructor
  · intro h
    rcases h with ((((((((h | h) | h) | h) | h) | h) | h) | h) | h)
    all_goals (subst h; decide)
  · intro h
    have key : ∀ n : Nat, n < 256 → c.toNat = n → c = UInt8.ofNat n := fun n hn h => UInt8.toNat_inj.1 (by rw [h]; simp; omega)
    rcases h with h | h | h | h | h | h | h | h | h
    all_goals (have := key _ (by decide) h; subst this; simp)
def VSaid (c : UInt8) (e : Ending) : Prop := e = .returned (.tuple #[.agg (vOf c.toNat).toArray, .bool (isVerb c)])
theorem vSaid_no {c : UInt8} (h : c.toNat ∉ verbLetters) : vOf c.toNat = vrow 0 0 false false ∧ isVerb c = false := by
  refine ⟨?_, ?_⟩
  · unfold verbLetters at h
    simp only [List.mem_cons, List.not_mem_nil, or_false, not_or] at h
    unfold vOf
    simp [h]
  · rw [Bool.eq_false_iff, ne_eq, vHas_iff]; exact h
/-- Four stores: a verb is stored whole. -/
def st4v (W : World) (R : Nat) (a0 a1 a2 a3 : Value) : World := (((W.setCell ⟨R, 0, none⟩ a0).setCell ⟨R, 1, none⟩ a1).setCell ⟨R, 2, none⟩ a2).setCell ⟨R, 3, none⟩ a3
theorem st4v_blk {W : World} {R : Nat} {T : TypeId} {c0 c1 c2 c3 a0 a1 a2 a3 : Value} (h : Blk T R #[c0, c1, c2, c3] W) : Blk T R #[a0, a1, a2, a3] (st4v W R a0 a1 a2 a3) := (((h.set 0 a0).set 1 a1).set 2 a2).set 3 a3
theorem st4v_below {w W : World} {R : Nat} {a0 a1 a2 a3 : Value} (h : Below w.heap.size w W) (hR : w.heap.size ≤ R) : Below w.heap.size w (st4v W R a0 a1 a2 a3) :=
  (((h.setCell (p := ⟨R, 0, none⟩) hR a0).setCell (p := ⟨R, 1, none⟩) hR a1).setCell (p := ⟨R, 2, none⟩) hR a2).setCell (p := ⟨R, 3, none⟩) hR a3

set_option maxHeartbeats 8000000 in
theorem verbOf_any (c : UInt8) (w : World) (he : E9 w) :
    Calls Tryz.prog 57 #[.int .u8 (c.toNat : Int)] w fun e w' => VSaid c e ∧ Below w.heap.size w w' := by
  obtain ⟨vt, vfr, hvb⟩ := vb_heap (he.alloc (.cells #[.int .u8 0, .int .i64 0, .bool false, .bool false] 98)).vb
  have HV := Lib.hid hvb
  have hcb := byte_bd9 c
  have HN := Lib.hid (vSaid_no (c := c))
  have i0 : ∀ w, (Instr.index 127 (.agg verbCells) (.int .i64 0)).run Tryz.prog w = .ok (.agg #[.int .u8 100, .int .i64 10, .bool true, .bool true]) w := fun _ => by kernel_rfl
  have i1 : ∀ w, (Instr.index 127 (.agg verbCells) (.int .i64 1)).run Tryz.prog w = .ok (.agg #[.int .u8 120, .int .i64 16, .bool false, .bool true]) w := fun _ => by kernel_rfl
  have i2 : ∀ w, (Instr.index 127 (.agg verbCells) (.int .i64 2)).run Tryz.prog w = .ok (.agg #[.int .u8 88, .int .i64 16, .bool false, .bool true]) w := fun _ => by kernel_rfl
  have i3 : ∀ w, (Instr.index 127 (.agg verbCells) (.int .i64 3)).run Tryz.prog w = .ok (.agg #[.int .u8 111, .int .i64 8, .bool false, .bool true]) w := fun _ => by kernel_rfl
  have i4 : ∀ w, (Instr.index 127 (.agg verbCells) (.int .i64 4)).run Tryz.prog w = .ok (.agg #[.int .u8 102, .int .i64 0, .bool true, .bool true]) w := fun _ => by kernel_rfl
  have i5 : ∀ w, (Instr.index 127 (.agg verbCells) (.int .i64 5)).run Tryz.prog w = .ok (.agg #[.int .u8 115, .int .i64 0, .bool false, .bool false]) w := fun _ => by kernel_rfl
  have i6 : ∀ w, (Instr.index 127 (.agg verbCells) (.int .i64 6)).run Tryz.prog w = .ok (.agg #[.int .u8 99, .int .i64 0, .bool false, .bool false]) w := fun _ => by kernel_rfl
  have i7 : ∀ w, (Instr.index 127 (.agg verbCells) (.int .i64 7)).run Tryz.prog w = .ok (.agg #[.int .u8 113, .int .i64 0, .bool false, .bool false]) w := fun _ => by kernel_rfl
  have i8 : ∀ w, (Instr.index 127 (.agg verbCells) (.int .i64 8)).run Tryz.prog w = .ok (.agg #[.int .u8 103, .int .i64 0, .bool true, .bool false]) w := fun _ => by kernel_rfl
  have hlt := he.alloc (.cells #[.int .u8 0, .int .i64 0, .bool false, .bool false] 98)
  have hlt2 := vb_lt he.vb
  clear hvb he hlt
  go_enter Tryz.func57, Tryz.ntmps57
  go_wp2_with (refine wpList_load_row rfl 127 (.global 0) rfl 0 rfl vt verbCells vfr _ HV.out Tryz.underlying127 rfl (by kernel_rfl) ?_)
  have HB0 := Lib.hid (Blk.new w 98 #[.int .u8 0, .int .i64 0, .bool false, .bool false] _ rfl)
  go_loopw [7] (fun v7 wr => ∃ k : Nat, k ≤ 9 ∧ v7 = .int .i64 (k : Int) ∧ Hid (∀ j x, j < k → verbLetters[j]? = some x → c.toNat ≠ x) ∧ Hid (Blk 98 w.heap.size #[.int .u8 0, .int .i64 0, .bool false, .bool false] wr ∧ Below w.heap.size w wr)) (fun v7 _ => 9 - (intOf v7).toNat)
  case atStart => exact ⟨0, by omega, rfl, Lib.hid (fun j x h => absurd h (by omega)), Lib.hid ⟨HB0.out, (Below.refl _ _).alloc (Nat.le_refl _) _⟩⟩
  case round =>
    obtain ⟨k, hk, rfl, HL, HW⟩ := hrel
    rename World => W0
    have hz0 := HW.out.1.lt
    have r0 : W0.cell? ⟨w.heap.size, 0, none⟩ = some (.int .u8 0) := HW.out.1.cell 0
    have r1 : W0.cell? ⟨w.heap.size, 1, none⟩ = some (.int .i64 0) := HW.out.1.cell 1
    have r2 : W0.cell? ⟨w.heap.size, 2, none⟩ = some (.bool false) := HW.out.1.cell 2
    have r3 : W0.cell? ⟨w.heap.size, 3, none⟩ = some (.bool false) := HW.out.1.cell 3
    have g0 := HW.out.1.fz 0
    have g1 := HW.out.1.fz 1
    have g2 := HW.out.1.fz 2
    have g3 := HW.out.1.fz 3
    have hc : k = 0 ∨ k = 1 ∨ k = 2 ∨ k = 3 ∨ k = 4 ∨ k = 5 ∨ k = 6 ∨ k = 7 ∨ k = 8 ∨ k = 9 := by omega
    rcases hc with rfl | rfl | rfl | rfl | rfl | rfl | rfl | rfl | rfl | rfl
    · by_cases hx : c.toNat = 100
      · have e1 : ((100 : Int) == (c.toNat : Int)) = true := by simp; omega
        have hX : VSaid c (.returned (.tuple #[.agg #[.int .u8 100, .int .i64 10, .bool true, .bool true], .bool true])) := by
          have hv : isVerb c = true := (vHas_iff c).2 (by rw [hx]; decide)
          unfold VSaid; rw [hv, hx]; rfl
        have HX := Lib.hid hX
        clear hx hX
        go_wp2
        show bodyPost _ _ _ Exit.ret _ ((st4v W0 w.heap.size (.int .u8 100) (.int .i64 10) (.bool true) (.bool true)).alloc (.cells #[.int .u8 100, .int .i64 10, .bool true, .bool true] 98))
        have hI : Blk 98 w.heap.size #[.int .u8 100, .int .i64 10, .bool true, .bool true] ((st4v W0 w.heap.size (.int .u8 100) (.int .i64 10) (.bool true) (.bool true)).alloc (.cells #[.int .u8 100, .int .i64 10, .bool true, .bool true] 98)) := (st4v_blk HW.out.1).ch ((Ch.refl [] _).alloc _) (by simp)
        have hS : Below w.heap.size w ((st4v W0 w.heap.size (.int .u8 100) (.int .i64 10) (.bool true) (.bool true)).alloc (.cells #[.int .u8 100, .int .i64 10, .bool true, .bool true] 98)) := by
          have h1 : Below w.heap.size w (st4v W0 w.heap.size (.int .u8 100) (.int .i64 10) (.bool true) (.bool true)) := st4v_below HW.out.2 (Nat.le_refl _)
          exact h1.alloc h1.size _
        have d0 := hI.cell 0
        have d1 := hI.cell 1
        have d2 := hI.cell 2
        have d3 := hI.cell 3
        simp at d0 d1 d2 d3
        generalize (st4v W0 w.heap.size (.int .u8 100) (.int .i64 10) (.bool true) (.bool true)).alloc (.cells #[.int .u8 100, .int .i64 10, .bool true, .bool true] 98) = W9 at *
        refine bodyPost_ret (v := .tuple #[.agg #[.int .u8 100, .int .i64 10, .bool true, .bool true], .bool true]) (by simp [results, Tryz.results57, go_sem, d0, d1, d2, d3]) rfl ⟨HX.out, hS⟩
      · have e1 : ((100 : Int) == (c.toNat : Int)) = false := by simp; omega
        have HL2 : Hid (∀ j x, j < 0 + 1 → verbLetters[j]? = some x → c.toNat ≠ x) := Lib.hid fun j x hj h2 => by
          by_cases e : j = 0
          · subst e; injection h2 with h2; rw [← h2]; exact hx
          · exact HL.out j x (by omega) h2
        clear hx
        go_wp2
        go_roundw
        case rel => exact ⟨0 + 1, by omega, rfl, HL2, Lib.hid ⟨HW.out.1.ch ((Ch.refl [] W0).alloc _) (by simp), HW.out.2.alloc (by omega) _⟩⟩
        case measure => simp [intOf]
    · by_cases hx : c.toNat = 120
      · have e1 : ((120 : Int) == (c.toNat : Int)) = true := by simp; omega
        have hX : VSaid c (.returned (.tuple #[.agg #[.int .u8 120, .int .i64 16, .bool false, .bool true], .bool true])) := by
          have hv : isVerb c = true := (vHas_iff c).2 (by rw [hx]; decide)
          unfold VSaid; rw [hv, hx]; rfl
        have HX := Lib.hid hX
        clear hx hX
        go_wp2
        show bodyPost _ _ _ Exit.ret _ ((st4v W0 w.heap.size (.int .u8 120) (.int .i64 16) (.bool false) (.bool true)).alloc (.cells #[.int .u8 120, .int .i64 16, .bool false, .bool true] 98))
        have hI : Blk 98 w.heap.size #[.int .u8 120, .int .i64 16, .bool false, .bool true] ((st4v W0 w.heap.size (.int .u8 120) (.int .i64 16) (.bool false) (.bool true)).alloc (.cells #[.int .u8 120, .int .i64 16, .bool false, .bool true] 98)) := (st4v_blk HW.out.1).ch ((Ch.refl [] _).alloc _) (by simp)
        have hS : Below w.heap.size w ((st4v W0 w.heap.size (.int .u8 120) (.int .i64 16) (.bool false) (.bool true)).alloc (.cells #[.int .u8 120, .int .i64 16, .bool false, .bool true] 98)) := by
          have h1 : Below w.heap.size w (st4v W0 w.heap.size (.int .u8 120) (.int .i64 16) (.bool false) (.bool true)) := st4v_below HW.out.2 (Nat.le_refl _)
          exact h1.alloc h1.size _
        have d0 := hI.cell 0
        have d1 := hI.cell 1
        have d2 := hI.cell 2
        have d3 := hI.cell 3
        simp at d0 d1 d2 d3
        generalize (st4v W0 w.heap.size (.int .u8 120) (.int .i64 16) (.bool false) (.bool true)).alloc (.cells #[.int .u8 120, .int .i64 16, .bool false, .bool true] 98) = W9 at *
        refine bodyPost_ret (v := .tuple #[.agg #[.int .u8 120, .int .i64 16, .bool false, .bool true], .bool true]) (by simp [results, Tryz.results57, go_sem, d0, d1, d2, d3]) rfl ⟨HX.out, hS⟩
      · have e1 : ((120 : Int) == (c.toNat : Int)) = false := by simp; omega
        have HL2 : Hid (∀ j x, j < 1 + 1 → verbLetters[j]? = some x → c.toNat ≠ x) := Lib.hid fun j x hj h2 => by
          by_cases e : j = 1
          · subst e; injection h2 with h2; rw [← h2]; exact hx
          · exact HL.out j x (by omega) h2
        clear hx
        go_wp2
        go_roundw
        case rel => exact ⟨1 + 1, by omega, rfl, HL2, Lib.hid ⟨HW.out.1.ch ((Ch.refl [] W0).alloc _) (by simp), HW.out.2.alloc (by omega) _⟩⟩
        case measure => simp [intOf]
    · by_cases hx : c.toNat = 88
      · have e1 : ((88 : Int) == (c.toNat : Int)) = true := by simp; omega
        have hX : VSaid c (.returned (.tuple #[.agg #[.int .u8 88, .int .i64 16, .bool false, .bool true], .bool true])) := by
          have hv : isVerb c = true := (vHas_iff c).2 (by rw [hx]; decide)
          unfold VSaid; rw [hv, hx]; rfl
        have HX := Lib.hid hX
        clear hx hX
        go_wp2
        show bodyPost _ _ _ Exit.ret _ ((st4v W0 w.heap.size (.int .u8 88) (.int .i64 16) (.bool false) (.bool true)).alloc (.cells #[.int .u8 88, .int .i64 16, .bool false, .bool true] 98))
        have hI : Blk 98 w.heap.size #[.int .u8 88, .int .i64 16, .bool false, .bool true] ((st4v W0 w.heap.size (.int .u8 88) (.int .i64 16) (.bool false) (.bool true)).alloc (.cells #[.int .u8 88, .int .i64 16, .bool false, .bool true] 98)) := (st4v_blk HW.out.1).ch ((Ch.refl [] _).alloc _) (by simp)
        have hS : Below w.heap.size w ((st4v W0 w.heap.size (.int .u8 88) (.int .i64 16) (.bool false) (.bool true)).alloc (.cells #[.int .u8 88, .int .i64 16, .bool false, .bool true] 98)) := by
          have h1 : Below w.heap.size w (st4v W0 w.heap.size (.int .u8 88) (.int .i64 16) (.bool false) (.bool true)) := st4v_below HW.out.2 (Nat.le_refl _)
          exact h1.alloc h1.size _
        have d0 := hI.cell 0
        have d1 := hI.cell 1
        have d2 := hI.cell 2
        have d3 := hI.cell 3
        simp at d0 d1 d2 d3
        generalize (st4v W0 w.heap.size (.int .u8 88) (.int .i64 16) (.bool false) (.bool true)).alloc (.cells #[.int .u8 88, .int .i64 16, .bool false, .bool true] 98) = W9 at *
        refine bodyPost_ret (v := .tuple #[.agg #[.int .u8 88, .int .i64 16, .bool false, .bool true], .bool true]) (by simp [results, Tryz.results57, go_sem, d0, d1, d2, d3]) rfl ⟨HX.out, hS⟩
      · have e1 : ((88 : Int) == (c.toNat : Int)) = false := by simp; omega
        have HL2 : Hid (∀ j x, j < 2 + 1 → verbLetters[j]? = some x → c.toNat ≠ x) := Lib.hid fun j x hj h2 => by
          by_cases e : j = 2
          · subst e; injection h2 with h2; rw [← h2]; exact hx
          · exact HL.out j x (by omega) h2
        clear hx
        go_wp2
        go_roundw
        case rel => exact ⟨2 + 1, by omega, rfl, HL2, Lib.hid ⟨HW.out.1.ch ((Ch.refl [] W0).alloc _) (by simp), HW.out.2.alloc (by omega) _⟩⟩
        case measure => simp [intOf]
    · by_cases hx : c.toNat = 111
      · have e1 : ((111 : Int) == (c.toNat : Int)) = true := by simp; omega
        have hX : VSaid c (.returned (.tuple #[.agg #[.int .u8 111, .int .i64 8, .bool false, .bool true], .bool true])) := by
          have hv : isVerb c = true := (vHas_iff c).2 (by rw [hx]; decide)
          unfold VSaid; rw [hv, hx]; rfl
        have HX := Lib.hid hX
        clear hx hX
        go_wp2
        show bodyPost _ _ _ Exit.ret _ ((st4v W0 w.heap.size (.int .u8 111) (.int .i64 8) (.bool false) (.bool true)).alloc (.cells #[.int .u8 111, .int .i64 8, .bool false, .bool true] 98))
        have hI : Blk 98 w.heap.size #[.int .u8 111, .int .i64 8, .bool false, .bool true] ((st4v W0 w.heap.size (.int .u8 111) (.int .i64 8) (.bool false) (.bool true)).alloc (.cells #[.int .u8 111, .int .i64 8, .bool false, .bool true] 98)) := (st4v_blk HW.out.1).ch ((Ch.refl [] _).alloc _) (by simp)
        have hS : Below w.heap.size w ((st4v W0 w.heap.size (.int .u8 111) (.int .i64 8) (.bool false) (.bool true)).alloc (.cells #[.int .u8 111, .int .i64 8, .bool false, .bool true] 98)) := by
          have h1 : Below w.heap.size w (st4v W0 w.heap.size (.int .u8 111) (.int .i64 8) (.bool false) (.bool true)) := st4v_below HW.out.2 (Nat.le_refl _)
          exact h1.alloc h1.size _
        have d0 := hI.cell 0
        have d1 := hI.cell 1
        have d2 := hI.cell 2
        have d3 := hI.cell 3
        simp at d0 d1 d2 d3
        generalize (st4v W0 w.heap.size (.int .u8 111) (.int .i64 8) (.bool false) (.bool true)).alloc (.cells #[.int .u8 111, .int .i64 8, .bool false, .bool true] 98) = W9 at *
        refine bodyPost_ret (v := .tuple #[.agg #[.int .u8 111, .int .i64 8, .bool false, .bool true], .bool true]) (by simp [results, Tryz.results57, go_sem, d0, d1, d2, d3]) rfl ⟨HX.out, hS⟩
      · have e1 : ((111 : Int) == (c.toNat : Int)) = false := by simp; omega
        have HL2 : Hid (∀ j x, j < 3 + 1 → verbLetters[j]? = some x → c.toNat ≠ x) := Lib.hid fun j x hj h2 => by
          by_cases e : j = 3
          · subst e; injection h2 with h2; rw [← h2]; exact hx
          · exact HL.out j x (by omega) h2
        clear hx
        go_wp2
        go_roundw
        case rel => exact ⟨3 + 1, by omega, rfl, HL2, Lib.hid ⟨HW.out.1.ch ((Ch.refl [] W0).alloc _) (by simp), HW.out.2.alloc (by omega) _⟩⟩
        case measure => simp [intOf]
    · by_cases hx : c.toNat = 102
      · have e1 : ((102 : Int) == (c.toNat : Int)) = true := by simp; omega
        have hX : VSaid c (.returned (.tuple #[.agg #[.int .u8 102, .int .i64 0, .bool true, .bool true], .bool true])) := by
          have hv : isVerb c = true := (vHas_iff c).2 (by rw [hx]; decide)
          unfold VSaid; rw [hv, hx]; rfl
        have HX := Lib.hid hX
        clear hx hX
        go_wp2
        show bodyPost _ _ _ Exit.ret _ ((st4v W0 w.heap.size (.int .u8 102) (.int .i64 0) (.bool true) (.bool true)).alloc (.cells #[.int .u8 102, .int .i64 0, .bool true, .bool true] 98))
        have hI : Blk 98 w.heap.size #[.int .u8 102, .int .i64 0, .bool true, .bool true] ((st4v W0 w.heap.size (.int .u8 102) (.int .i64 0) (.bool true) (.bool true)).alloc (.cells #[.int .u8 102, .int .i64 0, .bool true, .bool true] 98)) := (st4v_blk HW.out.1).ch ((Ch.refl [] _).alloc _) (by simp)
        have hS : Below w.heap.size w ((st4v W0 w.heap.size (.int .u8 102) (.int .i64 0) (.bool true) (.bool true)).alloc (.cells #[.int .u8 102, .int .i64 0, .bool true, .bool true] 98)) := by
          have h1 : Below w.heap.size w (st4v W0 w.heap.size (.int .u8 102) (.int .i64 0) (.bool true) (.bool true)) := st4v_below HW.out.2 (Nat.le_refl _)
          exact h1.alloc h1.size _
        have d0 := hI.cell 0
        have d1 := hI.cell 1
        have d2 := hI.cell 2
        have d3 := hI.cell 3
        simp at d0 d1 d2 d3
        generalize (st4v W0 w.heap.size (.int .u8 102) (.int .i64 0) (.bool true) (.bool true)).alloc (.cells #[.int .u8 102, .int .i64 0, .bool true, .bool true] 98) = W9 at *
        refine bodyPost_ret (v := .tuple #[.agg #[.int .u8 102, .int .i64 0, .bool true, .bool true], .bool true]) (by simp [results, Tryz.results57, go_sem, d0, d1, d2, d3]) rfl ⟨HX.out, hS⟩
      · have e1 : ((102 : Int) == (c.toNat : Int)) = false := by simp; omega
        have HL2 : Hid (∀ j x, j < 4 + 1 → verbLetters[j]? = some x → c.toNat ≠ x) := Lib.hid fun j x hj h2 => by
          by_cases e : j = 4
          · subst e; injection h2 with h2; rw [← h2]; exact hx
          · exact HL.out j x (by omega) h2
        clear hx
        go_wp2
        go_roundw
        case rel => exact ⟨4 + 1, by omega, rfl, HL2, Lib.hid ⟨HW.out.1.ch ((Ch.refl [] W0).alloc _) (by simp), HW.out.2.alloc (by omega) _⟩⟩
        case measure => simp [intOf]
    · by_cases hx : c.toNat = 115
      · have e1 : ((115 : Int) == (c.toNat : Int)) = true := by simp; omega
        have hX : VSaid c (.returned (.tuple #[.agg #[.int .u8 115, .int .i64 0, .bool false, .bool false], .bool true])) := by
          have hv : isVerb c = true := (vHas_iff c).2 (by rw [hx]; decide)
          unfold VSaid; rw [hv, hx]; rfl
        have HX := Lib.hid hX
        clear hx hX
        go_wp2
        show bodyPost _ _ _ Exit.ret _ ((st4v W0 w.heap.size (.int .u8 115) (.int .i64 0) (.bool false) (.bool false)).alloc (.cells #[.int .u8 115, .int .i64 0, .bool false, .bool false] 98))
        have hI : Blk 98 w.heap.size #[.int .u8 115, .int .i64 0, .bool false, .bool false] ((st4v W0 w.heap.size (.int .u8 115) (.int .i64 0) (.bool false) (.bool false)).alloc (.cells #[.int .u8 115, .int .i64 0, .bool false, .bool false] 98)) := (st4v_blk HW.out.1).ch ((Ch.refl [] _).alloc _) (by simp)
        have hS : Below w.heap.size w ((st4v W0 w.heap.size (.int .u8 115) (.int .i64 0) (.bool false) (.bool false)).alloc (.cells #[.int .u8 115, .int .i64 0, .bool false, .bool false] 98)) := by
          have h1 : Below w.heap.size w (st4v W0 w.heap.size (.int .u8 115) (.int .i64 0) (.bool false) (.bool false)) := st4v_below HW.out.2 (Nat.le_refl _)
          exact h1.alloc h1.size _
        have d0 := hI.cell 0
        have d1 := hI.cell 1
        have d2 := hI.cell 2
        have d3 := hI.cell 3
        simp at d0 d1 d2 d3
        generalize (st4v W0 w.heap.size (.int .u8 115) (.int .i64 0) (.bool false) (.bool false)).alloc (.cells #[.int .u8 115, .int .i64 0, .bool false, .bool false] 98) = W9 at *
        refine bodyPost_ret (v := .tuple #[.agg #[.int .u8 115, .int .i64 0, .bool false, .bool false], .bool true]) (by simp [results, Tryz.results57, go_sem, d0, d1, d2, d3]) rfl ⟨HX.out, hS⟩
      · have e1 : ((115 : Int) == (c.toNat : Int)) = false := by simp; omega
        have HL2 : Hid (∀ j x, j < 5 + 1 → verbLetters[j]? = some x → c.toNat ≠ x) := Lib.hid fun j x hj h2 => by
          by_cases e : j = 5
          · subst e; injection h2 with h2; rw [← h2]; exact hx
          · exact HL.out j x (by omega) h2
        clear hx
        go_wp2
        go_roundw
        case rel => exact ⟨5 + 1, by omega, rfl, HL2, Lib.hid ⟨HW.out.1.ch ((Ch.refl [] W0).alloc _) (by simp), HW.out.2.alloc (by omega) _⟩⟩
        case measure => simp [intOf]
    · by_cases hx : c.toNat = 99
      · have e1 : ((99 : Int) == (c.toNat : Int)) = true := by simp; omega
        have hX : VSaid c (.returned (.tuple #[.agg #[.int .u8 99, .int .i64 0, .bool false, .bool false], .bool true])) := by
          have hv : isVerb c = true := (vHas_iff c).2 (by rw [hx]; decide)
          unfold VSaid; rw [hv, hx]; rfl
        have HX := Lib.hid hX
        clear hx hX
        go_wp2
        show bodyPost _ _ _ Exit.ret _ ((st4v W0 w.heap.size (.int .u8 99) (.int .i64 0) (.bool false) (.bool false)).alloc (.cells #[.int .u8 99, .int .i64 0, .bool false, .bool false] 98))
        have hI : Blk 98 w.heap.size #[.int .u8 99, .int .i64 0, .bool false, .bool false] ((st4v W0 w.heap.size (.int .u8 99) (.int .i64 0) (.bool false) (.bool false)).alloc (.cells #[.int .u8 99, .int .i64 0, .bool false, .bool false] 98)) := (st4v_blk HW.out.1).ch ((Ch.refl [] _).alloc _) (by simp)
        have hS : Below w.heap.size w ((st4v W0 w.heap.size (.int .u8 99) (.int .i64 0) (.bool false) (.bool false)).alloc (.cells #[.int .u8 99, .int .i64 0, .bool false, .bool false] 98)) := by
          have h1 : Below w.heap.size w (st4v W0 w.heap.size (.int .u8 99) (.int .i64 0) (.bool false) (.bool false)) := st4v_below HW.out.2 (Nat.le_refl _)
          exact h1.alloc h1.size _
        have d0 := hI.cell 0
        have d1 := hI.cell 1
        have d2 := hI.cell 2
        have d3 := hI.cell 3
        simp at d0 d1 d2 d3
        generalize (st4v W0 w.heap.size (.int .u8 99) (.int .i64 0) (.bool false) (.bool false)).alloc (.cells #[.int .u8 99, .int .i64 0, .bool false, .bool false] 98) = W9 at *
        refine bodyPost_ret (v := .tuple #[.agg #[.int .u8 99, .int .i64 0, .bool false, .bool false], .bool true]) (by simp [results, Tryz.results57, go_sem, d0, d1, d2, d3]) rfl ⟨HX.out, hS⟩
      · have e1 : ((99 : Int) == (c.toNat : Int)) = false := by simp; omega
        have HL2 : Hid (∀ j x, j < 6 + 1 → verbLetters[j]? = some x → c.toNat ≠ x) := Lib.hid fun j x hj h2 => by
          by_cases e : j = 6
          · subst e; injection h2 with h2; rw [← h2]; exact hx
          · exact HL.out j x (by omega) h2
        clear hx
        go_wp2
        go_roundw
        case rel => exact ⟨6 + 1, by omega, rfl, HL2, Lib.hid ⟨HW.out.1.ch ((Ch.refl [] W0).alloc _) (by simp), HW.out.2.alloc (by omega) _⟩⟩
        case measure => simp [intOf]
    · by_cases hx : c.toNat = 113
      · have e1 : ((113 : Int) == (c.toNat : Int)) = true := by simp; omega
        have hX : VSaid c (.returned (.tuple #[.agg #[.int .u8 113, .int .i64 0, .bool false, .bool false], .bool true])) := by
          have hv : isVerb c = true := (vHas_iff c).2 (by rw [hx]; decide)
          unfold VSaid; rw [hv, hx]; rfl
        have HX := Lib.hid hX
        clear hx hX
        go_wp2
        show bodyPost _ _ _ Exit.ret _ ((st4v W0 w.heap.size (.int .u8 113) (.int .i64 0) (.bool false) (.bool false)).alloc (.cells #[.int .u8 113, .int .i64 0, .bool false, .bool false] 98))
        have hI : Blk 98 w.heap.size #[.int .u8 113, .int .i64 0, .bool false, .bool false] ((st4v W0 w.heap.size (.int .u8 113) (.int .i64 0) (.bool false) (.bool false)).alloc (.cells #[.int .u8 113, .int .i64 0, .bool false, .bool false] 98)) := (st4v_blk HW.out.1).ch ((Ch.refl [] _).alloc _) (by simp)
        have hS : Below w.heap.size w ((st4v W0 w.heap.size (.int .u8 113) (.int .i64 0) (.bool false) (.bool false)).alloc (.cells #[.int .u8 113, .int .i64 0, .bool false, .bool false] 98)) := by
          have h1 : Below w.heap.size w (st4v W0 w.heap.size (.int .u8 113) (.int .i64 0) (.bool false) (.bool false)) := st4v_below HW.out.2 (Nat.le_refl _)
          exact h1.alloc h1.size _
        have d0 := hI.cell 0
        have d1 := hI.cell 1
        have d2 := hI.cell 2
        have d3 := hI.cell 3
        simp at d0 d1 d2 d3
        generalize (st4v W0 w.heap.size (.int .u8 113) (.int .i64 0) (.bool false) (.bool false)).alloc (.cells #[.int .u8 113, .int .i64 0, .bool false, .bool false] 98) = W9 at *
        refine bodyPost_ret (v := .tuple #[.agg #[.int .u8 113, .int .i64 0, .bool false, .bool false], .bool true]) (by simp [results, Tryz.results57, go_sem, d0, d1, d2, d3]) rfl ⟨HX.out, hS⟩
      · have e1 : ((113 : Int) == (c.toNat : Int)) = false := by simp; omega
        have HL2 : Hid (∀ j x, j < 7 + 1 → verbLetters[j]? = some x → c.toNat ≠ x) := Lib.hid fun j x hj h2 => by
          by_cases e : j = 7
          · subst e; injection h2 with h2; rw [← h2]; exact hx
          · exact HL.out j x (by omega) h2
        clear hx
        go_wp2
        go_roundw
        case rel => exact ⟨7 + 1, by omega, rfl, HL2, Lib.hid ⟨HW.out.1.ch ((Ch.refl [] W0).alloc _) (by simp), HW.out.2.alloc (by omega) _⟩⟩
        case measure => simp [intOf]
    · by_cases hx : c.toNat = 103
      · have e1 : ((103 : Int) == (c.toNat : Int)) = true := by simp; omega
        have hX : VSaid c (.returned (.tuple #[.agg #[.int .u8 103, .int .i64 0, .bool true, .bool false], .bool true])) := by
          have hv : isVerb c = true := (vHas_iff c).2 (by rw [hx]; decide)
          unfold VSaid; rw [hv, hx]; rfl
        have HX := Lib.hid hX
        clear hx hX
        go_wp2
        show bodyPost _ _ _ Exit.ret _ ((st4v W0 w.heap.size (.int .u8 103) (.int .i64 0) (.bool true) (.bool false)).alloc (.cells #[.int .u8 103, .int .i64 0, .bool true, .bool false] 98))
        have hI : Blk 98 w.heap.size #[.int .u8 103, .int .i64 0, .bool true, .bool false] ((st4v W0 w.heap.size (.int .u8 103) (.int .i64 0) (.bool true) (.bool false)).alloc (.cells #[.int .u8 103, .int .i64 0, .bool true, .bool false] 98)) := (st4v_blk HW.out.1).ch ((Ch.refl [] _).alloc _) (by simp)
        have hS : Below w.heap.size w ((st4v W0 w.heap.size (.int .u8 103) (.int .i64 0) (.bool true) (.bool false)).alloc (.cells #[.int .u8 103, .int .i64 0, .bool true, .bool false] 98)) := by
          have h1 : Below w.heap.size w (st4v W0 w.heap.size (.int .u8 103) (.int .i64 0) (.bool true) (.bool false)) := st4v_below HW.out.2 (Nat.le_refl _)
          exact h1.alloc h1.size _
        have d0 := hI.cell 0
        have d1 := hI.cell 1
        have d2 := hI.cell 2
        have d3 := hI.cell 3
        simp at d0 d1 d2 d3
        generalize (st4v W0 w.heap.size (.int .u8 103) (.int .i64 0) (.bool true) (.bool false)).alloc (.cells #[.int .u8 103, .int .i64 0, .bool true, .bool false] 98) = W9 at *
        refine bodyPost_ret (v := .tuple #[.agg #[.int .u8 103, .int .i64 0, .bool true, .bool false], .bool true]) (by simp [results, Tryz.results57, go_sem, d0, d1, d2, d3]) rfl ⟨HX.out, hS⟩
      · have e1 : ((103 : Int) == (c.toNat : Int)) = false := by simp; omega
        have HL2 : Hid (∀ j x, j < 8 + 1 → verbLetters[j]? = some x → c.toNat ≠ x) := Lib.hid fun j x hj h2 => by
          by_cases e : j = 8
          · subst e; injection h2 with h2; rw [← h2]; exact hx
          · exact HL.out j x (by omega) h2
        clear hx
        go_wp2
        go_roundw
        case rel => exact ⟨8 + 1, by omega, rfl, HL2, Lib.hid ⟨HW.out.1.ch ((Ch.refl [] W0).alloc _) (by simp), HW.out.2.alloc (by omega) _⟩⟩
        case measure => simp [intOf]
    · have hX : VSaid c (.returned (.tuple #[.agg #[.int .u8 0, .int .i64 0, .bool false, .bool false], .bool false])) := by
        have hn : c.toNat ∉ verbLetters := fun hm => by
          obtain ⟨j, hj, he⟩ := List.mem_iff_getElem.1 hm
          exact HL.out j _ hj (List.getElem?_eq_getElem hj) he.symm
        unfold VSaid; rw [(HN.out hn).1, (HN.out hn).2]; rfl
      have HX := Lib.hid hX
      clear hX
      go_wp2
      show bodyPost _ _ _ Exit.ret _ (st4v W0 w.heap.size (.int .u8 0) (.int .i64 0) (.bool false) (.bool false))
      have hI : Blk 98 w.heap.size #[.int .u8 0, .int .i64 0, .bool false, .bool false] (st4v W0 w.heap.size (.int .u8 0) (.int .i64 0) (.bool false) (.bool false)) := st4v_blk HW.out.1
      have hS : Below w.heap.size w (st4v W0 w.heap.size (.int .u8 0) (.int .i64 0) (.bool false) (.bool false)) := st4v_below HW.out.2 (Nat.le_refl _)
      have d0 := hI.cell 0
      have d1 := hI.cell 1
      have d2 := hI.cell 2
      have d3 := hI.cell 3
      simp at d0 d1 d2 d3
      generalize st4v W0 w.heap.size (.int .u8 0) (.int .i64 0) (.bool false) (.bool false) = W9 at *
      refine bodyPost_ret (v := .tuple #[.agg #[.int .u8 0, .int .i64 0, .bool false, .bool false], .bool false]) (by simp [results, Tryz.results57, go_sem, d0, d1, d2, d3]) rfl ⟨HX.out, hS⟩

theorem vOf_len (n : Nat) : ∃ a b s z, vOf n = vrow a b s z := by
  unfold vOf
  repeat (first | exact ⟨_, _, _, _, rfl⟩ | split)
theorem known_any (c : UInt8) (w : World) (he : E9 w) :
    Calls Tryz.prog 53 #[.int .u8 (c.toNat : Int)] w fun e w' => e = .returned (.bool (isVerb c)) ∧ Below w.heap.size w w' := by
  have Q := Lib.hid (verbOf_any c w he)
  obtain ⟨a, b, s, z, hv⟩ := vOf_len c.toNat
  unfold VSaid at Q
  rw [hv, show (vrow a b s z).toArray = #[.int .u8 a, .int .i64 b, .bool s, .bool z] from rfl] at Q
  generalize isVerb c = q at *
  clear hv
  go_enter Tryz.func53, Tryz.ntmps53
  go_wp2_with (go_at_call 57; (with_reducible refine (Q.out).mono ?_); rintro e w1 ⟨rfl, hb1⟩)
  go_ret
  exact ⟨rfl, hb1.alloc hb1.size _⟩
end Go.Proofs.YtbdcmnhfmkefdaaGreatDoor
