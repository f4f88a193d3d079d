/- Layer 18: what a law begins with: values and calls opened and shut. -/
import Derived.Test.YtbfeahafogbbhaaStV
import Derived.ChangeArms
import Derived.ProofKit
import Derived.OpenShut
import Derived.ChangeOld
import Derived.Below
import Derived.Lib.SmallJoins
import Derived.Carry
import Derived.Deep.Slices
namespace Go.Proofs.Ytbfeahafogbbhaa
open Go.ChangeShapes Go.WideShapes Go.ChangeAt Go.RowKit Go.Joins Go.Deep M1
set_option linter.unusedVariables false
theorem own : ownKnob Try.prog.godebug = none := by kernel_rfl
theorem cellsNum : Try.prog.cellsOf 31 = 2 := by kernel_rfl
theorem cellsVal : Try.prog.cellsOf 33 = 5 := by kernel_rfl
theorem cellsIntU : Try.prog.cellsOf 3 = 1 := by kernel_rfl
theorem cellsStrU : Try.prog.cellsOf 9 = 1 := by kernel_rfl
theorem len5 {α : Type} {l : List α} (h : l.length = 5) : ∃ a b c d e, l = [a, b, c, d, e] := by
  match l, h with
  | [a, b, c, d, e], _ => exact ⟨a, b, c, d, e, rfl⟩
theorem len4u {α : Type} {l : List α} (h : l.length = 4) : ∃ a b c d, l = [a, b, c, d] := by
  match l, h with
  | [a, b, c, d], _ => exact ⟨a, b, c, d, rfl⟩
theorem len2u {α : Type} {l : List α} (h : l.length = 2) : ∃ a b, l = [a, b] := by
  match l, h with
  | [a, b], _ => exact ⟨a, b, rfl⟩
def valD {H : Type} (k p q : Int) (s : ByteArray) (r : Int) : DataW H := .agg [.lit (.int .i64 k), .agg [.lit (.int .i64 p), .lit (.int .i64 q)], .lit (.string s.data.toList), .lit (.int .i64 r)]
theorem trod_val {H : Type} {enc : TypeId × Value → H} {W : World} {base : Nat} {sp : Nat → Bool} {held : Bool} {fuel : Nat} {cs : List Value} {x : DataW H × List MemPlace} (h : DataW.trod enc Try.prog W base sp held fuel 33 cs = some x) :
    ∃ k p q s r, cs = [.int .i64 k, .int .i64 p, .int .i64 q, .string s, .int .i64 r] ∧ x = (valD k p q s r, []) ∧ (Lit.int .i64 k).wf = true ∧ (Lit.int .i64 p).wf = true ∧ (Lit.int .i64 q).wf = true ∧ s.size ≤ maxLen ∧ (Lit.int .i64 r).wf = true := by
  obtain ⟨xs, n', _, rfl, hlen, hxl, hf⟩ := DataW.trod_struct Try.underlying33 h
  rw [cellsVal] at hlen
  have hxl4 : xs.length = 4 := hxl
  obtain ⟨v0, v1, v2, v3, v4, rfl⟩ := len5 hlen
  obtain ⟨y0, y1, y2, y3, rfl⟩ := len4u hxl4
  have f0 : DataW.trod enc Try.prog W base sp held n' 3 (([v0, v1, v2, v3, v4].drop 0).take (Try.prog.cellsOf 3)) = some y0 := hf 0 _ rfl
  have f1 : DataW.trod enc Try.prog W base sp held n' 31 (([v0, v1, v2, v3, v4].drop 1).take (Try.prog.cellsOf 31)) = some y1 := hf 1 _ rfl
  have f2 : DataW.trod enc Try.prog W base sp held n' 9 (([v0, v1, v2, v3, v4].drop 3).take (Try.prog.cellsOf 9)) = some y2 := hf 2 _ rfl
  have f3 : DataW.trod enc Try.prog W base sp held n' 3 (([v0, v1, v2, v3, v4].drop 4).take (Try.prog.cellsOf 3)) = some y3 := hf 3 _ rfl
  rw [cellsIntU] at f0 f3
  rw [cellsStrU] at f2
  rw [cellsNum] at f1
  obtain ⟨zs, n2, _, rfl, _, hzl, hg⟩ := DataW.trod_struct Try.underlying31 f1
  have hzl2 : zs.length = 2 := hzl
  obtain ⟨z0, z1, rfl⟩ := len2u hzl2
  simp only [List.drop_succ_cons, List.drop_zero, List.take_succ_cons, List.take_zero] at hg
  have g0 : DataW.trod enc Try.prog W base sp held n2 3 (([v1, v2].drop 0).take (Try.prog.cellsOf 3)) = some z0 := hg 0 _ rfl
  have g1 : DataW.trod enc Try.prog W base sp held n2 3 (([v1, v2].drop 1).take (Try.prog.cellsOf 3)) = some z1 := hg 1 _ rfl
  rw [cellsIntU] at g0 g1
  obtain ⟨k, e0, rfl, wk⟩ := DataW.trod_int Try.underlying3 f0
  obtain ⟨s, e2, rfl, ws⟩ := DataW.trod_string Try.underlying9 f2
  obtain ⟨r, e3, rfl, wr⟩ := DataW.trod_int Try.underlying3 f3
  obtain ⟨p, e4, rfl, wp⟩ := DataW.trod_int Try.underlying3 g0
  obtain ⟨q, e5, rfl, wq⟩ := DataW.trod_int Try.underlying3 g1
  simp only [List.drop_zero, List.drop_succ_cons, List.take_succ_cons, List.take_zero, List.cons.injEq, and_true] at e0 e2 e3 e4 e5
  subst e0 e2 e3 e4 e5
  exact ⟨k, p, q, s, r, rfl, rfl, wk, wp, wq, ws, wr⟩
set_option maxRecDepth 100000 in
theorem open_val {H : Type} {enc : TypeId × Value → H} {W : World} {base b0 : Nat} {sp : Nat → Bool} {held : Bool} {rc : Reach} {v : Value} {d : DataW H} {pl : List MemPlace} (hv : Value.okWide Try.prog W rc b0 33 v) (h : DataW.Trod enc Try.prog W base sp held 33 v d pl) :
    ∃ k p q s r, v = .agg #[.int .i64 k, .int .i64 p, .int .i64 q, .string s, .int .i64 r] ∧ d = valD k p q s r ∧ pl = [] ∧ (Lit.int .i64 k).wf = true ∧ (Lit.int .i64 p).wf = true ∧ (Lit.int .i64 q).wf = true ∧ s.size ≤ maxLen ∧ (Lit.int .i64 r).wf = true := by
  obtain ⟨cs, rfl, hsz⟩ := okWide_struct Try.underlying33 hv
  obtain ⟨fuel, hf⟩ := h
  obtain ⟨k, p, q, s, r, hc, hx, w⟩ := trod_val hf
  have hc2 : cs.toList = [.int .i64 k, .int .i64 p, .int .i64 q, .string s, .int .i64 r] := hc
  obtain rfl : cs = #[.int .i64 k, .int .i64 p, .int .i64 q, .string s, .int .i64 r] := by
    cases cs; exact congrArg Array.mk hc2
  injection hx with h1 h2
  exact ⟨k, p, q, s, r, rfl, h1, h2, w⟩
theorem val_trod {H : Type} {enc : TypeId × Value → H} {W : World} {base : Nat} {sp : Nat → Bool} {held : Bool} (n : Nat) {k p q : Int} {s : ByteArray} {r : Int} (wk : (Lit.int .i64 k).wf = true) (wp : (Lit.int .i64 p).wf = true) (wq : (Lit.int .i64 q).wf = true) (ws : s.size ≤ maxLen) (wr : (Lit.int .i64 r).wf = true) :
    DataW.trod enc Try.prog W base sp held (n + 3) 33 [.int .i64 k, .int .i64 p, .int .i64 q, .string s, .int .i64 r] = some (valD k p q s r, []) := by
  have fi : ∀ (m : Nat) (x : Int), (Lit.int .i64 x).wf = true → DataW.trod enc Try.prog W base sp held (m + 1) 3 [.int .i64 x] = some (.lit (.int .i64 x), []) := fun m x hx => by simp [DataW.trod, Try.underlying3, hx]
  have fs : ∀ (m : Nat), DataW.trod enc Try.prog W base sp held (m + 1) 9 [.string s] = some (.lit (.string s.data.toList), []) := fun m => by simp [DataW.trod, Try.underlying9, ws]
  have fn : DataW.trod enc Try.prog W base sp held (n + 2) 31 [.int .i64 p, .int .i64 q] = some (.agg [.lit (.int .i64 p), .lit (.int .i64 q)], []) := by
    have := trod_struct_mk (enc := enc) (P := Try.prog) (w := W) (base := base) (spare := sp) (held := held) (n := n + 1) (cs := [.int .i64 p, .int .i64 q]) (xs := [(.lit (.int .i64 p), []), (.lit (.int .i64 q), [])]) Try.underlying31 (by rw [cellsNum]; rfl) (by
      have a := fi n p wp
      have b := fi n q wq
      simp [cellsIntU, a, b])
    simpa using this
  have := trod_struct_mk (enc := enc) (P := Try.prog) (w := W) (base := base) (spare := sp) (held := held) (n := n + 2) (cs := [.int .i64 k, .int .i64 p, .int .i64 q, .string s, .int .i64 r]) (xs := [(.lit (.int .i64 k), []), (.agg [.lit (.int .i64 p), .lit (.int .i64 q)], []), (.lit (.string s.data.toList), []), (.lit (.int .i64 r), [])]) Try.underlying33 (by rw [cellsVal]; rfl) (by
    have a := fi (n + 1) k wk
    have b := fi (n + 1) r wr
    have c := fs (n + 1)
    simp [cellsIntU, cellsStrU, cellsNum, a, b, c, fn])
  simpa [valD] using this
theorem shut_val {H : Type} {enc : TypeId × Value → H} {W : World} {base : Nat} {sp : Nat → Bool} {held : Bool} {k p q : Int} {s : ByteArray} {r : Int} (wk : (Lit.int .i64 k).wf = true) (wp : (Lit.int .i64 p).wf = true) (wq : (Lit.int .i64 q).wf = true) (ws : s.size ≤ maxLen) (wr : (Lit.int .i64 r).wf = true) :
    DataW.Trod enc Try.prog W base sp held 33 (.agg #[.int .i64 k, .int .i64 p, .int .i64 q, .string s, .int .i64 r]) (valD k p q s r) [] := ⟨3, val_trod 0 wk wp wq ws wr⟩
structure Op8 where
  k : Int
  r : Int
  nm : ByteArray
  v : V5
instance : Inhabited Op8 := ⟨⟨0, 0, ⟨#[]⟩, v5z⟩⟩
def op8C (c : Op8) : List Value := .int .i64 c.k :: .int .i64 c.r :: .string c.nm :: vC c.v
theorem cellsOp8 : Try.prog.cellsOf 35 = 8 := by kernel_rfl
theorem len8c {α : Type} {l : List α} (h : l.length = 8) : ∃ v0 v1 v2 v3 v4 v5 v6 v7, l = [v0, v1, v2, v3, v4, v5, v6, v7] := by
  match l, h with
  | [v0, v1, v2, v3, v4, v5, v6, v7], _ => exact ⟨v0, v1, v2, v3, v4, v5, v6, v7, rfl⟩
def cOp8D {H : Type} (k : Int) (r : Int) (nm : ByteArray) (v1 v2 v3 : Int) (v4 : ByteArray) (v5 : Int) : DataW H := .agg [.lit (.int .i64 k), .lit (.int .i64 r), .lit (.string nm.data.toList), valD v1 v2 v3 v4 v5]
theorem trod_Op8 {H : Type} {enc : TypeId × Value → H} {W : World} {base : Nat} {sp : Nat → Bool} {held : Bool} {fuel : Nat} {cs : List Value} {x : DataW H × List MemPlace} (h : DataW.trod enc Try.prog W base sp held fuel 35 cs = some x) :
    ∃ k r nm v1 v2 v3 v4 v5, cs = [.int .i64 k, .int .i64 r, .string nm, .int .i64 v1, .int .i64 v2, .int .i64 v3, .string v4, .int .i64 v5] ∧ x = (cOp8D k r nm v1 v2 v3 v4 v5, []) ∧ (Lit.int .i64 k).wf = true ∧ (Lit.int .i64 r).wf = true ∧ nm.size ≤ maxLen ∧ (Lit.int .i64 v1).wf = true ∧ (Lit.int .i64 v2).wf = true ∧ (Lit.int .i64 v3).wf = true ∧ v4.size ≤ maxLen ∧ (Lit.int .i64 v5).wf = true := by
  obtain ⟨xs, n', _, rfl, hlen, hxl, hf⟩ := DataW.trod_struct Try.underlying35 h
  rw [cellsOp8] at hlen
  have hxl4 : xs.length = 4 := hxl
  obtain ⟨v0, v1, v2, v3, v4, v5, v6, v7, rfl⟩ := len8c hlen
  obtain ⟨y0, y1, y2, y3, rfl⟩ := len4u hxl4
  have f0 : DataW.trod enc Try.prog W base sp held n' 3 (([v0, v1, v2, v3, v4, v5, v6, v7].drop 0).take (Try.prog.cellsOf 3)) = some y0 := hf 0 _ rfl
  rw [cellsIntU] at f0
  have f1 : DataW.trod enc Try.prog W base sp held n' 3 (([v0, v1, v2, v3, v4, v5, v6, v7].drop 1).take (Try.prog.cellsOf 3)) = some y1 := hf 1 _ rfl
  rw [cellsIntU] at f1
  have f2 : DataW.trod enc Try.prog W base sp held n' 9 (([v0, v1, v2, v3, v4, v5, v6, v7].drop 2).take (Try.prog.cellsOf 9)) = some y2 := hf 2 _ rfl
  rw [cellsStrU] at f2
  have f3 : DataW.trod enc Try.prog W base sp held n' 33 (([v0, v1, v2, v3, v4, v5, v6, v7].drop 3).take (Try.prog.cellsOf 33)) = some y3 := hf 3 _ rfl
  rw [cellsVal] at f3
  obtain ⟨k, e0, rfl, wk⟩ := DataW.trod_int Try.underlying3 f0
  obtain ⟨r, e1, rfl, wr⟩ := DataW.trod_int Try.underlying3 f1
  obtain ⟨nm, e2, rfl, wnm⟩ := DataW.trod_string Try.underlying9 f2
  obtain ⟨v1, v2, v3, v4, v5, e3, rfl, wv1, wv2, wv3, wv4, wv5⟩ := trod_val f3
  simp only [List.drop_zero, List.drop_succ_cons, List.take_succ_cons, List.take_zero, List.cons.injEq, and_true] at e0 e1 e2 e3
  subst e0
  subst e1
  subst e2
  obtain ⟨rfl, rfl, rfl, rfl, rfl⟩ := e3
  exact ⟨k, r, nm, v1, v2, v3, v4, v5, rfl, rfl, wk, wr, wnm, wv1, wv2, wv3, wv4, wv5⟩
set_option maxRecDepth 100000 in
theorem open_Op8 {H : Type} {enc : TypeId × Value → H} {W : World} {base b0 : Nat} {sp : Nat → Bool} {held : Bool} {rc : Reach} {v : Value} {d : DataW H} {pl : List MemPlace} (hv : Value.okWide Try.prog W rc b0 35 v) (h : DataW.Trod enc Try.prog W base sp held 35 v d pl) :
    ∃ k r nm v1 v2 v3 v4 v5, v = .agg #[.int .i64 k, .int .i64 r, .string nm, .int .i64 v1, .int .i64 v2, .int .i64 v3, .string v4, .int .i64 v5] ∧ d = cOp8D k r nm v1 v2 v3 v4 v5 ∧ pl = [] ∧ (Lit.int .i64 k).wf = true ∧ (Lit.int .i64 r).wf = true ∧ nm.size ≤ maxLen ∧ (Lit.int .i64 v1).wf = true ∧ (Lit.int .i64 v2).wf = true ∧ (Lit.int .i64 v3).wf = true ∧ v4.size ≤ maxLen ∧ (Lit.int .i64 v5).wf = true := by
  obtain ⟨cs, rfl, hsz⟩ := okWide_struct Try.underlying35 hv
  obtain ⟨fuel, hf⟩ := h
  obtain ⟨k, r, nm, v1, v2, v3, v4, v5, hc, hx, w⟩ := trod_Op8 hf
  have hc2 : cs.toList = [.int .i64 k, .int .i64 r, .string nm, .int .i64 v1, .int .i64 v2, .int .i64 v3, .string v4, .int .i64 v5] := hc
  obtain rfl : cs = #[.int .i64 k, .int .i64 r, .string nm, .int .i64 v1, .int .i64 v2, .int .i64 v3, .string v4, .int .i64 v5] := by
    cases cs; exact congrArg Array.mk hc2
  injection hx with h1 h2
  exact ⟨k, r, nm, v1, v2, v3, v4, v5, rfl, h1, h2, w⟩
theorem shut_Op8 {H : Type} {enc : TypeId × Value → H} {W : World} {base : Nat} {sp : Nat → Bool} {held : Bool} {k : Int} {r : Int} {nm : ByteArray} {v1 v2 v3 : Int} {v4 : ByteArray} {v5 : Int} (wk : (Lit.int .i64 k).wf = true) (wr : (Lit.int .i64 r).wf = true) (wnm : nm.size ≤ maxLen) (wv1 : (Lit.int .i64 v1).wf = true) (wv2 : (Lit.int .i64 v2).wf = true) (wv3 : (Lit.int .i64 v3).wf = true) (wv4 : v4.size ≤ maxLen) (wv5 : (Lit.int .i64 v5).wf = true) :
    DataW.Trod enc Try.prog W base sp held 35 (.agg #[.int .i64 k, .int .i64 r, .string nm, .int .i64 v1, .int .i64 v2, .int .i64 v3, .string v4, .int .i64 v5]) (cOp8D k r nm v1 v2 v3 v4 v5) [] := by
  refine ⟨4, ?_⟩
  have fi : ∀ (m : Nat) (x : Int), (Lit.int .i64 x).wf = true → DataW.trod enc Try.prog W base sp held (m + 1) 3 [.int .i64 x] = some (.lit (.int .i64 x), []) := fun m x hx => by simp [DataW.trod, Try.underlying3, hx]
  have fs : ∀ (m : Nat) (s : ByteArray), s.size ≤ maxLen → DataW.trod enc Try.prog W base sp held (m + 1) 9 [.string s] = some (.lit (.string s.data.toList), []) := fun m s ws => by simp [DataW.trod, Try.underlying9, ws]
  have a0 := fi 2 k wk
  have a1 := fi 2 r wr
  have a2 := fs 2 nm wnm
  have a3 := val_trod (enc := enc) (W := W) (base := base) (sp := sp) (held := held) 0 wv1 wv2 wv3 wv4 wv5
  have := trod_struct_mk (enc := enc) (P := Try.prog) (w := W) (base := base) (spare := sp) (held := held) (n := 3) (cs := [.int .i64 k, .int .i64 r, .string nm, .int .i64 v1, .int .i64 v2, .int .i64 v3, .string v4, .int .i64 v5]) (xs := [(.lit (.int .i64 k), []), (.lit (.int .i64 r), []), (.lit (.string nm.data.toList), []), (valD v1 v2 v3 v4 v5, [])]) Try.underlying35 (by rw [cellsOp8]; rfl) (by
    simp [cellsIntU, cellsStrU, cellsVal, a0, a1, a2, a3])
  show DataW.trod enc Try.prog W base sp held 4 35 [.int .i64 k, .int .i64 r, .string nm, .int .i64 v1, .int .i64 v2, .int .i64 v3, .string v4, .int .i64 v5] = some (cOp8D k r nm v1 v2 v3 v4 v5, [])
  simpa [cOp8D] using this
structure Op8s (w : World) (v : Value) (l : List Op8) : Prop where
  form : ∃ p c, v = .slice p l.length c ∧ (0 < l.length → ∃ g o, p = some ⟨g, o, none⟩ ∧ g < w.heap.size ∧ ∀ (j m : Nat) (hj : j < l.length), m < 8 → w.cell? ⟨g, o + j * 8 + m, none⟩ = (op8C l[j])[m]?)
theorem Op8s_nil (w : World) (c : Nat) : Op8s w (.slice none 0 c) [] := ⟨_, _, rfl, fun h => absurd h (by decide)⟩
theorem Op8s.below {w w' : World} {v : Value} {l : List Op8} (h : Op8s w v l) (hb : Ch [] w w') : Op8s w' v l := by
  obtain ⟨p, c, rfl, h2⟩ := h.form
  refine ⟨p, c, rfl, fun h0 => ?_⟩
  obtain ⟨g, o, h3, h4, h5⟩ := h2 h0
  exact ⟨g, o, h3, Nat.lt_of_lt_of_le h4 hb.size, fun j m hj hm => (hb.below.cell (p := ⟨g, _, none⟩) h4).trans (h5 j m hj hm)⟩
theorem open_Op8s {H : Type} {enc : TypeId × Value → H} {W : World} {sp : Nat → Bool} {fuel len cap : Nat} {a : Option Addr} {x : DataW H × List MemPlace} (h : DataW.trod enc Try.prog W 0 sp true fuel 22 [.slice a len cap] = some x) :
    ∃ l : List Op8, Op8s W (.slice a len cap) l ∧ l.length = len ∧ len ≤ maxLen := by
  rcases open_slice Try.underlying22 h with ⟨hc, _⟩ | ⟨b, len', cap', m, n, D, Pl, hc, _, hl, hcm, hmm, _, hi⟩
  · simp only [List.cons.injEq, Value.slice.injEq, and_true] at hc
    obtain ⟨rfl, rfl, rfl⟩ := hc
    exact ⟨[], Op8s_nil _ _, rfl, Nat.zero_le _⟩
  · simp only [List.cons.injEq, Value.slice.injEq, and_true] at hc
    obtain ⟨rfl, rfl, rfl⟩ := hc
    have hlm : len ≤ m := by rw [hmm]; split <;> omega
    have each : ∀ i, i < len → ∃ y : Op8, ∀ j, j < 8 → W.cell? ((b.add (i * 8)).add j) = (op8C y)[j]? := by
      intro i hil
      obtain ⟨cs, h1, h2⟩ := hi i (by omega)
      rw [cellsOp8] at h1
      obtain ⟨_, hlen, hcell⟩ := World.cells?_some h1
      obtain ⟨k, r, nm, v1, v2, v3, v4, v5, rfl, _⟩ := trod_Op8 h2
      exact ⟨⟨k, r, nm, ⟨v1, v2, v3, v4, v5⟩⟩, fun j hj => hcell j hj⟩
    obtain ⟨I, hI⟩ : ∃ I : Nat → Op8, ∀ i, i < len → ∀ j, j < 8 → W.cell? ((b.add (i * 8)).add j) = (op8C (I i))[j]? :=
      ⟨fun i => if h : i < len then Classical.choose (each i h) else default, fun i h => by have := Classical.choose_spec (each i h); simpa [h] using this⟩
    obtain ⟨g, o, spt⟩ := b
    refine ⟨(List.range len).map I, ⟨some ⟨g, o, spt⟩, cap, by simp, fun h0 => ?_⟩, by simp, Nat.le_trans hl hcm⟩
    have h0 : 0 < len := by simpa using h0
    have h9 : W.cell? _ = some (.int .i64 (I 0).k) := hI 0 h0 0 (by omega)
    have hsp : spt = none := by
      have := World.cell?_spot h9
      simpa [Addr.add] using this
    subst hsp
    refine ⟨g, o, rfl, World.block_lt_of_cell? W _ h9, fun j m hj hm => ?_⟩
    have hjl : j < len := by simpa using hj
    have h1 := hI j hjl m hm
    rw [addr_addQ, addr_addQ] at h1
    rw [List.getElem_map, List.getElem_range]
    exact h1
end Go.Proofs.Ytbfeahafogbbhaa
