/- Layer 11: what every law begins with. -/
import Derived.Test.YtibggoikjlnnkaaDoorValF
import Derived.Test.YtibggoikjlnnkaaDoorValC
import Derived.ChangeArms
namespace Go.Proofs.YtibggoikjlnnkaaDoor
open Go.ChangeShapes Go.WideShapes Go.ChangeAt Go.RowKit Go.Joins M1 M2
set_option linter.unusedVariables false
theorem cellsVal : Tryd.prog.cellsOf 25 = 5 := by kernel_rfl
theorem cellsIntU : Tryd.prog.cellsOf 3 = 1 := by kernel_rfl
theorem cellsStrU : Tryd.prog.cellsOf 9 = 1 := by kernel_rfl
theorem len5 {α : Type} {l : List α} (h : l.length = 5) : ∃ a b c d e, l = [a, b, c, d, e] := by
  match l, h with
  | [a, b, c, d, e], _ => exact ⟨a, b, c, d, e, rfl⟩
theorem len4u {α : Type} {l : List α} (h : l.length = 4) : ∃ a b c d, l = [a, b, c, d] := by
  match l, h with
  | [a, b, c, d], _ => exact ⟨a, b, c, d, rfl⟩
theorem len2u {α : Type} {l : List α} (h : l.length = 2) : ∃ a b, l = [a, b] := by
  match l, h with
  | [a, b], _ => exact ⟨a, b, rfl⟩
def valD {H : Type} (k p q : Int) (s : ByteArray) (r : Int) : DataW H := .agg [.lit (.int .i64 k), .agg [.lit (.int .i64 p), .lit (.int .i64 q)], .lit (.string s.data.toList), .lit (.int .i64 r)]
theorem trod_val {H : Type} {enc : TypeId × Value → H} {W : World} {base : Nat} {sp : Nat → Bool} {held : Bool} {fuel : Nat} {cs : List Value} {x : DataW H × List MemPlace} (h : DataW.trod enc Tryd.prog W base sp held fuel 25 cs = some x) :
    ∃ k p q s r, cs = [.int .i64 k, .int .i64 p, .int .i64 q, .string s, .int .i64 r] ∧ x = (valD k p q s r, []) ∧ (Lit.int .i64 k).wf = true ∧ (Lit.int .i64 p).wf = true ∧ (Lit.int .i64 q).wf = true ∧ s.size ≤ maxLen ∧ (Lit.int .i64 r).wf = true := by
  obtain ⟨xs, n', _, rfl, hlen, hxl, hf⟩ := DataW.trod_struct Tryd.underlying25 h
  rw [cellsVal] at hlen
  have hxl4 : xs.length = 4 := hxl
  obtain ⟨v0, v1, v2, v3, v4, rfl⟩ := len5 hlen
  obtain ⟨y0, y1, y2, y3, rfl⟩ := len4u hxl4
  have f0 : DataW.trod enc Tryd.prog W base sp held n' 3 (([v0, v1, v2, v3, v4].drop 0).take (Tryd.prog.cellsOf 3)) = some y0 := hf 0 _ rfl
  have f1 : DataW.trod enc Tryd.prog W base sp held n' 23 (([v0, v1, v2, v3, v4].drop 1).take (Tryd.prog.cellsOf 23)) = some y1 := hf 1 _ rfl
  have f2 : DataW.trod enc Tryd.prog W base sp held n' 9 (([v0, v1, v2, v3, v4].drop 3).take (Tryd.prog.cellsOf 9)) = some y2 := hf 2 _ rfl
  have f3 : DataW.trod enc Tryd.prog W base sp held n' 3 (([v0, v1, v2, v3, v4].drop 4).take (Tryd.prog.cellsOf 3)) = some y3 := hf 3 _ rfl
  rw [cellsIntU] at f0 f3
  rw [cellsStrU] at f2
  rw [cellsNum] at f1
  obtain ⟨zs, n2, _, rfl, _, hzl, hg⟩ := DataW.trod_struct Tryd.underlying23 f1
  have hzl2 : zs.length = 2 := hzl
  obtain ⟨z0, z1, rfl⟩ := len2u hzl2
  simp only [List.drop_succ_cons, List.drop_zero, List.take_succ_cons, List.take_zero] at hg
  have g0 : DataW.trod enc Tryd.prog W base sp held n2 3 (([v1, v2].drop 0).take (Tryd.prog.cellsOf 3)) = some z0 := hg 0 _ rfl
  have g1 : DataW.trod enc Tryd.prog W base sp held n2 3 (([v1, v2].drop 1).take (Tryd.prog.cellsOf 3)) = some z1 := hg 1 _ rfl
  rw [cellsIntU] at g0 g1
  obtain ⟨k, e0, rfl, wk⟩ := DataW.trod_int Tryd.underlying3 f0
  obtain ⟨s, e2, rfl, ws⟩ := DataW.trod_string Tryd.underlying9 f2
  obtain ⟨r, e3, rfl, wr⟩ := DataW.trod_int Tryd.underlying3 f3
  obtain ⟨p, e4, rfl, wp⟩ := DataW.trod_int Tryd.underlying3 g0
  obtain ⟨q, e5, rfl, wq⟩ := DataW.trod_int Tryd.underlying3 g1
  simp only [List.drop_zero, List.drop_succ_cons, List.take_succ_cons, List.take_zero, List.cons.injEq, and_true] at e0 e2 e3 e4 e5
  subst e0 e2 e3 e4 e5
  exact ⟨k, p, q, s, r, rfl, rfl, wk, wp, wq, ws, wr⟩
set_option maxRecDepth 100000 in
theorem open_val {H : Type} {enc : TypeId × Value → H} {W : World} {base b0 : Nat} {sp : Nat → Bool} {held : Bool} {rc : Reach} {v : Value} {d : DataW H} {pl : List MemPlace} (hv : Value.okWide Tryd.prog W rc b0 25 v) (h : DataW.Trod enc Tryd.prog W base sp held 25 v d pl) :
    ∃ k p q s r, v = .agg #[.int .i64 k, .int .i64 p, .int .i64 q, .string s, .int .i64 r] ∧ d = valD k p q s r ∧ pl = [] ∧ (Lit.int .i64 k).wf = true ∧ (Lit.int .i64 p).wf = true ∧ (Lit.int .i64 q).wf = true ∧ s.size ≤ maxLen ∧ (Lit.int .i64 r).wf = true := by
  obtain ⟨cs, rfl, hsz⟩ := okWide_struct Tryd.underlying25 hv
  obtain ⟨fuel, hf⟩ := h
  obtain ⟨k, p, q, s, r, hc, hx, w⟩ := trod_val hf
  have hc2 : cs.toList = [.int .i64 k, .int .i64 p, .int .i64 q, .string s, .int .i64 r] := hc
  obtain rfl : cs = #[.int .i64 k, .int .i64 p, .int .i64 q, .string s, .int .i64 r] := by
    cases cs; exact congrArg Array.mk hc2
  injection hx with h1 h2
  exact ⟨k, p, q, s, r, rfl, h1, h2, w⟩
theorem val_trod {H : Type} {enc : TypeId × Value → H} {W : World} {base : Nat} {sp : Nat → Bool} {held : Bool} (n : Nat) {k p q : Int} {s : ByteArray} {r : Int} (wk : (Lit.int .i64 k).wf = true) (wp : (Lit.int .i64 p).wf = true) (wq : (Lit.int .i64 q).wf = true) (ws : s.size ≤ maxLen) (wr : (Lit.int .i64 r).wf = true) :
    DataW.trod enc Tryd.prog W base sp held (n + 3) 25 [.int .i64 k, .int .i64 p, .int .i64 q, .string s, .int .i64 r] = some (valD k p q s r, []) := by
  have fi : ∀ (m : Nat) (x : Int), (Lit.int .i64 x).wf = true → DataW.trod enc Tryd.prog W base sp held (m + 1) 3 [.int .i64 x] = some (.lit (.int .i64 x), []) := fun m x hx => by simp [DataW.trod, Tryd.underlying3, hx]
  have fs : ∀ (m : Nat), DataW.trod enc Tryd.prog W base sp held (m + 1) 9 [.string s] = some (.lit (.string s.data.toList), []) := fun m => by simp [DataW.trod, Tryd.underlying9, ws]
  have fn : DataW.trod enc Tryd.prog W base sp held (n + 2) 23 [.int .i64 p, .int .i64 q] = some (.agg [.lit (.int .i64 p), .lit (.int .i64 q)], []) := by
    have := trod_struct_mk (enc := enc) (P := Tryd.prog) (w := W) (base := base) (spare := sp) (held := held) (n := n + 1) (cs := [.int .i64 p, .int .i64 q]) (xs := [(.lit (.int .i64 p), []), (.lit (.int .i64 q), [])]) Tryd.underlying23 (by rw [cellsNum]; rfl) (by
      have a := fi n p wp
      have b := fi n q wq
      simp [cellsIntU, a, b])
    simpa using this
  have := trod_struct_mk (enc := enc) (P := Tryd.prog) (w := W) (base := base) (spare := sp) (held := held) (n := n + 2) (cs := [.int .i64 k, .int .i64 p, .int .i64 q, .string s, .int .i64 r]) (xs := [(.lit (.int .i64 k), []), (.agg [.lit (.int .i64 p), .lit (.int .i64 q)], []), (.lit (.string s.data.toList), []), (.lit (.int .i64 r), [])]) Tryd.underlying25 (by rw [cellsVal]; rfl) (by
    have a := fi (n + 1) k wk
    have b := fi (n + 1) r wr
    have c := fs (n + 1)
    simp [cellsIntU, cellsStrU, cellsNum, a, b, c, fn])
  simpa [valD] using this
theorem shut_val {H : Type} {enc : TypeId × Value → H} {W : World} {base : Nat} {sp : Nat → Bool} {held : Bool} {k p q : Int} {s : ByteArray} {r : Int} (wk : (Lit.int .i64 k).wf = true) (wp : (Lit.int .i64 p).wf = true) (wq : (Lit.int .i64 q).wf = true) (ws : s.size ≤ maxLen) (wr : (Lit.int .i64 r).wf = true) :
    DataW.Trod enc Tryd.prog W base sp held 25 (.agg #[.int .i64 k, .int .i64 p, .int .i64 q, .string s, .int .i64 r]) (valD k p q s r) [] := ⟨3, val_trod 0 wk wp wq ws wr⟩
def st2 (W : World) (R : Nat) (a0 a1 : Value) : World := (W.setCell ⟨R, 0, none⟩ a0).setCell ⟨R, 1, none⟩ a1
theorem st2_blk {T : TypeId} {W : World} {R : Nat} {b0 b1 a0 a1 : Value} (h : Blk T R #[b0, b1] W) : Blk T R #[a0, a1] (st2 W R a0 a1) := (h.set 0 a0).set 1 a1
theorem st2_bel {B : Nat} {w W : World} {R : Nat} {a0 a1 : Value} (h : Below B w W) (hR : B ≤ R) : Below B w (st2 W R a0 a1) := (h.setCell (p := ⟨R, 0, none⟩) hR a0).setCell (p := ⟨R, 1, none⟩) hR a1
theorem hex16 : (parseR [32, 48, 120, 49, 48, 32]).P = 16 ∧ (parseR [32, 48, 120, 49, 48, 32]).Q = 1 ∧ (parseR [32, 48, 120, 49, 48, 32]).E = 0 := by decide +kernel
theorem text12 : mkB (textR 1 2) = ⟨#[49, 47, 50]⟩ := by decide +kernel
theorem textTab : textS 4 0 0 ⟨#[]⟩ 5 = ⟨#[116, 97, 98, 108, 101, 58, 32, 53]⟩ := by decide +kernel
theorem textBui : textS 6 0 0 ⟨#[115, 116, 114, 105, 110, 103, 46, 108, 101, 110]⟩ 0 = ⟨#[98, 117, 105, 108, 116, 105, 110, 58, 32, 115, 116, 114, 105, 110, 103, 46, 108, 101, 110]⟩ := by decide +kernel
end Go.Proofs.YtibggoikjlnnkaaDoor
