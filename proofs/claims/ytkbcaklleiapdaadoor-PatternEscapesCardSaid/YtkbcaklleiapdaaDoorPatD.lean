/- Contracts of layer 4: the reader's next byte; what stands behind %. -/
import Derived.Test.YtkbcaklleiapdaaDoorPatC
namespace Go.Proofs.YtkbcaklleiapdaaDoor
open Go.RowKit M4
set_option linter.unusedVariables false
/-- A reader: the pattern, the index, the states of the captures, the open ones. -/
def Rd (b : Nat) (p : ByteArray) (k : Nat) (st op : Value) (w : World) : Prop := w.heap[b]? = some (.cells #[.string p, .int .i64 (k : Int), st, op] 86 (0, 0))
theorem Rd.lt {b : Nat} {p : ByteArray} {k : Nat} {st op : Value} {w : World} (h : Rd b p k st op w) : b < w.heap.size := (Array.getElem?_eq_some_iff.1 h).1
theorem Rd.c0 {b : Nat} {p : ByteArray} {k : Nat} {st op : Value} {w : World} (h : Rd b p k st op w) : w.cell? ⟨b, 0, none⟩ = some (.string p) := by unfold Rd at h; simp [World.cell?, h]
theorem Rd.c1 {b : Nat} {p : ByteArray} {k : Nat} {st op : Value} {w : World} (h : Rd b p k st op w) : w.cell? ⟨b, 1, none⟩ = some (.int .i64 (k : Int)) := by unfold Rd at h; simp [World.cell?, h]
theorem Rd.c2 {b : Nat} {p : ByteArray} {k : Nat} {st op : Value} {w : World} (h : Rd b p k st op w) : w.cell? ⟨b, 2, none⟩ = some st := by unfold Rd at h; simp [World.cell?, h]
theorem Rd.c3 {b : Nat} {p : ByteArray} {k : Nat} {st op : Value} {w : World} (h : Rd b p k st op w) : w.cell? ⟨b, 3, none⟩ = some op := by unfold Rd at h; simp [World.cell?, h]
theorem Rd.fz {b : Nat} {p : ByteArray} {k : Nat} {st op : Value} {w : World} (h : Rd b p k st op w) (o : Nat) : w.frozen? ⟨b, o, none⟩ = false := by unfold Rd at h; simp [World.frozen?, h]
theorem set_same (w : World) (b : Nat) (o : Nat) (cs : Array Value) (t : TypeId) (v : Value) (h : w.heap[b]? = some (.cells cs t (0, 0))) : (w.setCell ⟨b, o, none⟩ v).heap[b]? = some (.cells (cs.setIfInBounds o v) t (0, 0)) := by
  simp [World.setCell, Array.getElem?_modify, h]
theorem Rd.set1 {b : Nat} {p : ByteArray} {k : Nat} {st op : Value} {w : World} (h : Rd b p k st op w) (j : Nat) (v : Value) (hv : v = .int .i64 (j : Int)) : Rd b p j st op (w.setCell ⟨b, 1, none⟩ v) := by
  subst hv
  exact set_same w b 1 _ _ _ h
theorem Rd.drewN {b : Nat} {p : ByteArray} {k : Nat} {st op : Value} {w : World} (h : Rd b p k st op w) (n : Nat) : Rd b p k st op (w.drewN n) := by unfold Rd at *; simpa using h
theorem Rd.kept {b : Nat} {p : ByteArray} {k : Nat} {st op : Value} {w w' : World} {r : Option Nat} (h : Rd b p k st op w) (hg : w.grownBy w' r) (hr : r ≠ some b) : Rd b p k st op w' := by
  unfold Rd at *; rw [hg.block b (Rd.lt h) (fun e => hr e.symm)]; exact h
theorem grow_set4 {w w' : World} {b : Nat} (h : w.grownBy w' (some b)) (o : Nat) (v : Value) : w.grownBy (w'.setCell ⟨b, o, none⟩ v) (some b) :=
  ⟨h.os, h.tape, h.output, by simpa [World.setCell] using h.size, fun k hk hr => by rw [Below.heap_setCell _ _ _ _ (fun e => hr (by rw [e]))]; exact h.block k hk hr⟩
theorem grow_drewN4 {w w' : World} {row : Option Nat} (h : w.grownBy w' row) (n : Nat) : w.grownBy (w'.drewN n) row := ⟨h.os, by simpa using h.tape, h.output, by simpa using h.size, fun k hk hr => by simpa using h.block k hk hr⟩

set_option maxHeartbeats 4000000 in
set_option maxRecDepth 100000 in
theorem skip4_any (b : Nat) (p : ByteArray) (k : Nat) (st op : Value) (c : UInt8) (w : World) (hp : p.size ≤ 1000000) (hk : k ≤ p.size) (h : Rd b p k st op w) :
    Calls Tryd.prog 43 #[.pointer (some ⟨b, 0, none⟩), .int .u8 (c.toNat : Int)] w fun e w' => e = .returned (.bool (decide (p.data.toList[k]? = some c))) ∧ Rd b p (if p.data.toList[k]? = some c then k + 1 else k) st op w' ∧ w.grownBy w' (some b) := by
  have hll : p.data.toList.length = p.size := Array.length_toList
  have c0 := h.c0
  have c1 := h.c1
  have f1 := h.fz 1
  have HD := Lib.hid fun n => h.drewN n
  have HG := Lib.hid fun n => grow_drewN4 (World.grownBy.refl w (some b)) n
  by_cases hkl : k < p.size
  · have hkl' : (k : Int) < (p.size : Int) := by omega
    have hk0 : 0 ≤ (k : Int) := by omega
    have hq : ((k : Int) == (p.size : Int)) = false := by rw [beq_eq_false_iff_ne]; omega
    have hge : p.data.toList[k]? = some p[k] := by rw [List.getElem?_eq_getElem (by omega)]; rfl
    rw [hge]
    obtain ⟨d, hd⟩ : ∃ d, p[k] = d := ⟨_, rfl⟩
    have hdi : (p[k].toNat : Int) = (d.toNat : Int) := by rw [hd]
    rw [hd]
    by_cases hdc : d = c
    · have e1 : ((d.toNat : Int) != (c.toNat : Int)) = false := by rw [hdc]; simp
      rw [if_pos (by rw [hdc]), decide_eq_true (by rw [hdc])]
      have hw : IntKind.i64.wrap ((k : Int) + 1) = ((k + 1 : Nat) : Int) := by simp only [IntKind.wrap]; simp [IntKind.signed, IntKind.bits]; omega
      have HD2 := Lib.hid fun n => (h.drewN n).set1 (k + 1) (.int .i64 ((k : Int) + 1)) (by push_cast; rfl)
      have HG2 := Lib.hid fun n => grow_set4 (grow_drewN4 (World.grownBy.refl w (some b)) n) 1 (.int .i64 ((k : Int) + 1))
      clear h hge hd hdc
      go_enter Tryd.func43, Tryd.ntmps43
      go_wp2
      go_quiet (fail)
      go_wp2
      go_ret
      exact ⟨rfl, HD2.out _, HG2.out _⟩
    · have e1 : ((d.toNat : Int) != (c.toNat : Int)) = true := by rw [bne_iff_ne]; intro e; exact hdc (UInt8.toNat_inj.1 (by omega))
      have hns : ¬ some d = some c := fun e => hdc (Option.some.inj e)
      rw [if_neg hns, decide_eq_false hns]
      clear h hge hd hdc hns
      go_enter Tryd.func43, Tryd.ntmps43
      go_wp2
      go_quiet (fail)
      go_wp2
      go_ret
      exact ⟨rfl, HD.out _, HG.out _⟩
  · have hq : ((k : Int) == (p.size : Int)) = true := by rw [beq_iff_eq]; omega
    have hge : p.data.toList[k]? = none := List.getElem?_eq_none (by omega)
    have hns : ¬ (none : Option UInt8) = some c := by simp
    rw [hge, if_neg hns, decide_eq_false hns]
    clear h hge hns
    go_enter Tryd.func43, Tryd.ntmps43
    go_wp2
    go_quiet (fail)
    go_wp2
    go_ret
    exact ⟨rfl, HD.out _, HG.out _⟩
end Go.Proofs.YtkbcaklleiapdaaDoor
