/- Layer 12: what every law begins with: values opened and shut. -/
import Derived.Test.YtaaelhhiceildaaOdrN
import Derived.ChangeArms
import Derived.ProofKit
import Derived.OpenShut
import Derived.ChangeOld
import Derived.Below
import Derived.Lib.SmallJoins
namespace Go.Proofs.Ytaaelhhiceildaa
open Go.ChangeShapes Go.WideShapes Go.ChangeAt Go.RowKit Go.Joins M1
set_option linter.unusedVariables false
theorem own : ownKnob Try.prog.godebug = none := by kernel_rfl
theorem cellsNum : Try.prog.cellsOf 24 = 2 := by kernel_rfl
theorem cellsVal : Try.prog.cellsOf 26 = 5 := by kernel_rfl
theorem cellsIntU : Try.prog.cellsOf 3 = 1 := by kernel_rfl
theorem cellsStrU : Try.prog.cellsOf 9 = 1 := by kernel_rfl
theorem len5 {α : Type} {l : List α} (h : l.length = 5) : ∃ a b c d e, l = [a, b, c, d, e] := by
  match l, h with
  | [a, b, c, d, e], _ => exact ⟨a, b, c, d, e, rfl⟩
theorem len4u {α : Type} {l : List α} (h : l.length = 4) : ∃ a b c d, l = [a, b, c, d] := by
  match l, h with
  | [a, b, c, d], _ => exact ⟨a, b, c, d, rfl⟩
theorem len2u {α : Type} {l : List α} (h : l.length = 2) : ∃ a b, l = [a, b] := by
  match l, h with
  | [a, b], _ => exact ⟨a, b, rfl⟩
def valD {H : Type} (k p q : Int) (s : ByteArray) (r : Int) : DataW H := .agg [.lit (.int .i64 k), .agg [.lit (.int .i64 p), .lit (.int .i64 q)], .lit (.string s.data.toList), .lit (.int .i64 r)]
theorem trod_val {H : Type} {enc : TypeId × Value → H} {W : World} {base : Nat} {sp : Nat → Bool} {held : Bool} {fuel : Nat} {cs : List Value} {x : DataW H × List MemPlace} (h : DataW.trod enc Try.prog W base sp held fuel 26 cs = some x) :
    ∃ k p q s r, cs = [.int .i64 k, .int .i64 p, .int .i64 q, .string s, .int .i64 r] ∧ x = (valD k p q s r, []) ∧ (Lit.int .i64 k).wf = true ∧ (Lit.int .i64 p).wf = true ∧ (Lit.int .i64 q).wf = true ∧ s.size ≤ maxLen ∧ (Lit.int .i64 r).wf = true := by
  obtain ⟨xs, n', _, rfl, hlen, hxl, hf⟩ := DataW.trod_struct Try.underlying26 h
  rw [cellsVal] at hlen
  have hxl4 : xs.length = 4 := hxl
  obtain ⟨v0, v1, v2, v3, v4, rfl⟩ := len5 hlen
  obtain ⟨y0, y1, y2, y3, rfl⟩ := len4u hxl4
  have f0 : DataW.trod enc Try.prog W base sp held n' 3 (([v0, v1, v2, v3, v4].drop 0).take (Try.prog.cellsOf 3)) = some y0 := hf 0 _ rfl
  have f1 : DataW.trod enc Try.prog W base sp held n' 24 (([v0, v1, v2, v3, v4].drop 1).take (Try.prog.cellsOf 24)) = some y1 := hf 1 _ rfl
  have f2 : DataW.trod enc Try.prog W base sp held n' 9 (([v0, v1, v2, v3, v4].drop 3).take (Try.prog.cellsOf 9)) = some y2 := hf 2 _ rfl
  have f3 : DataW.trod enc Try.prog W base sp held n' 3 (([v0, v1, v2, v3, v4].drop 4).take (Try.prog.cellsOf 3)) = some y3 := hf 3 _ rfl
  rw [cellsIntU] at f0 f3
  rw [cellsStrU] at f2
  rw [cellsNum] at f1
  obtain ⟨zs, n2, _, rfl, _, hzl, hg⟩ := DataW.trod_struct Try.underlying24 f1
  have hzl2 : zs.length = 2 := hzl
  obtain ⟨z0, z1, rfl⟩ := len2u hzl2
  simp only [List.drop_succ_cons, List.drop_zero, List.take_succ_cons, List.take_zero] at hg
  have g0 : DataW.trod enc Try.prog W base sp held n2 3 (([v1, v2].drop 0).take (Try.prog.cellsOf 3)) = some z0 := hg 0 _ rfl
  have g1 : DataW.trod enc Try.prog W base sp held n2 3 (([v1, v2].drop 1).take (Try.prog.cellsOf 3)) = some z1 := hg 1 _ rfl
  rw [cellsIntU] at g0 g1
  obtain ⟨k, e0, rfl, wk⟩ := DataW.trod_int Try.underlying3 f0
  obtain ⟨s, e2, rfl, ws⟩ := DataW.trod_string Try.underlying9 f2
  obtain ⟨r, e3, rfl, wr⟩ := DataW.trod_int Try.underlying3 f3
  obtain ⟨p, e4, rfl, wp⟩ := DataW.trod_int Try.underlying3 g0
  obtain ⟨q, e5, rfl, wq⟩ := DataW.trod_int Try.underlying3 g1
  simp only [List.drop_zero, List.drop_succ_cons, List.take_succ_cons, List.take_zero, List.cons.injEq, and_true] at e0 e2 e3 e4 e5
  subst e0 e2 e3 e4 e5
  exact ⟨k, p, q, s, r, rfl, rfl, wk, wp, wq, ws, wr⟩
set_option maxRecDepth 100000 in
theorem open_val {H : Type} {enc : TypeId × Value → H} {W : World} {base b0 : Nat} {sp : Nat → Bool} {held : Bool} {rc : Reach} {v : Value} {d : DataW H} {pl : List MemPlace} (hv : Value.okWide Try.prog W rc b0 26 v) (h : DataW.Trod enc Try.prog W base sp held 26 v d pl) :
    ∃ k p q s r, v = .agg #[.int .i64 k, .int .i64 p, .int .i64 q, .string s, .int .i64 r] ∧ d = valD k p q s r ∧ pl = [] ∧ (Lit.int .i64 k).wf = true ∧ (Lit.int .i64 p).wf = true ∧ (Lit.int .i64 q).wf = true ∧ s.size ≤ maxLen ∧ (Lit.int .i64 r).wf = true := by
  obtain ⟨cs, rfl, hsz⟩ := okWide_struct Try.underlying26 hv
  obtain ⟨fuel, hf⟩ := h
  obtain ⟨k, p, q, s, r, hc, hx, w⟩ := trod_val hf
  have hc2 : cs.toList = [.int .i64 k, .int .i64 p, .int .i64 q, .string s, .int .i64 r] := hc
  obtain rfl : cs = #[.int .i64 k, .int .i64 p, .int .i64 q, .string s, .int .i64 r] := by
    cases cs; exact congrArg Array.mk hc2
  injection hx with h1 h2
  exact ⟨k, p, q, s, r, rfl, h1, h2, w⟩
theorem val_trod {H : Type} {enc : TypeId × Value → H} {W : World} {base : Nat} {sp : Nat → Bool} {held : Bool} (n : Nat) {k p q : Int} {s : ByteArray} {r : Int} (wk : (Lit.int .i64 k).wf = true) (wp : (Lit.int .i64 p).wf = true) (wq : (Lit.int .i64 q).wf = true) (ws : s.size ≤ maxLen) (wr : (Lit.int .i64 r).wf = true) :
    DataW.trod enc Try.prog W base sp held (n + 3) 26 [.int .i64 k, .int .i64 p, .int .i64 q, .string s, .int .i64 r] = some (valD k p q s r, []) := by
  have fi : ∀ (m : Nat) (x : Int), (Lit.int .i64 x).wf = true → DataW.trod enc Try.prog W base sp held (m + 1) 3 [.int .i64 x] = some (.lit (.int .i64 x), []) := fun m x hx => by simp [DataW.trod, Try.underlying3, hx]
  have fs : ∀ (m : Nat), DataW.trod enc Try.prog W base sp held (m + 1) 9 [.string s] = some (.lit (.string s.data.toList), []) := fun m => by simp [DataW.trod, Try.underlying9, ws]
  have fn : DataW.trod enc Try.prog W base sp held (n + 2) 24 [.int .i64 p, .int .i64 q] = some (.agg [.lit (.int .i64 p), .lit (.int .i64 q)], []) := by
    have := trod_struct_mk (enc := enc) (P := Try.prog) (w := W) (base := base) (spare := sp) (held := held) (n := n + 1) (cs := [.int .i64 p, .int .i64 q]) (xs := [(.lit (.int .i64 p), []), (.lit (.int .i64 q), [])]) Try.underlying24 (by rw [cellsNum]; rfl) (by
      have a := fi n p wp
      have b := fi n q wq
      simp [cellsIntU, a, b])
    simpa using this
  have := trod_struct_mk (enc := enc) (P := Try.prog) (w := W) (base := base) (spare := sp) (held := held) (n := n + 2) (cs := [.int .i64 k, .int .i64 p, .int .i64 q, .string s, .int .i64 r]) (xs := [(.lit (.int .i64 k), []), (.agg [.lit (.int .i64 p), .lit (.int .i64 q)], []), (.lit (.string s.data.toList), []), (.lit (.int .i64 r), [])]) Try.underlying26 (by rw [cellsVal]; rfl) (by
    have a := fi (n + 1) k wk
    have b := fi (n + 1) r wr
    have c := fs (n + 1)
    simp [cellsIntU, cellsStrU, cellsNum, a, b, c, fn])
  simpa [valD] using this
theorem shut_val {H : Type} {enc : TypeId × Value → H} {W : World} {base : Nat} {sp : Nat → Bool} {held : Bool} {k p q : Int} {s : ByteArray} {r : Int} (wk : (Lit.int .i64 k).wf = true) (wp : (Lit.int .i64 p).wf = true) (wq : (Lit.int .i64 q).wf = true) (ws : s.size ≤ maxLen) (wr : (Lit.int .i64 r).wf = true) :
    DataW.Trod enc Try.prog W base sp held 26 (.agg #[.int .i64 k, .int .i64 p, .int .i64 q, .string s, .int .i64 r]) (valD k p q s r) [] := ⟨3, val_trod 0 wk wp wq ws wr⟩
end Go.Proofs.Ytaaelhhiceildaa
