/- Layer 20: what a law begins with: values, lists, actions, needs opened. -/
import Derived.Test.YtdgdpckjcpgoaaaPrN
import Derived.ChangeArms
import Derived.ProofKit
import Derived.OpenShut
import Derived.ChangeOld
import Derived.Below
import Derived.Lib.SmallJoins
import Derived.Carry
import Derived.Deep.Slices
namespace Go.Proofs.Ytdgdpckjcpgoaaa
open Go.ChangeShapes Go.WideShapes Go.ChangeAt Go.RowKit Go.Joins Go.Deep M1
set_option linter.unusedVariables false
theorem own : ownKnob Try.prog.godebug = none := by kernel_rfl
theorem cellsNum : Try.prog.cellsOf 24 = 2 := by kernel_rfl
theorem cellsVal : Try.prog.cellsOf 26 = 5 := by kernel_rfl
theorem cellsIntU : Try.prog.cellsOf 3 = 1 := by kernel_rfl
theorem cellsStrU : Try.prog.cellsOf 9 = 1 := by kernel_rfl
theorem len5 {α : Type} {l : List α} (h : l.length = 5) : ∃ a b c d e, l = [a, b, c, d, e] := by
  match l, h with
  | [a, b, c, d, e], _ => exact ⟨a, b, c, d, e, rfl⟩
theorem len4u {α : Type} {l : List α} (h : l.length = 4) : ∃ a b c d, l = [a, b, c, d] := by
  match l, h with
  | [a, b, c, d], _ => exact ⟨a, b, c, d, rfl⟩
theorem len2u {α : Type} {l : List α} (h : l.length = 2) : ∃ a b, l = [a, b] := by
  match l, h with
  | [a, b], _ => exact ⟨a, b, rfl⟩
def valD {H : Type} (k p q : Int) (s : ByteArray) (r : Int) : DataW H := .agg [.lit (.int .i64 k), .agg [.lit (.int .i64 p), .lit (.int .i64 q)], .lit (.string s.data.toList), .lit (.int .i64 r)]
theorem trod_val {H : Type} {enc : TypeId × Value → H} {W : World} {base : Nat} {sp : Nat → Bool} {held : Bool} {fuel : Nat} {cs : List Value} {x : DataW H × List MemPlace} (h : DataW.trod enc Try.prog W base sp held fuel 26 cs = some x) :
    ∃ k p q s r, cs = [.int .i64 k, .int .i64 p, .int .i64 q, .string s, .int .i64 r] ∧ x = (valD k p q s r, []) ∧ (Lit.int .i64 k).wf = true ∧ (Lit.int .i64 p).wf = true ∧ (Lit.int .i64 q).wf = true ∧ s.size ≤ maxLen ∧ (Lit.int .i64 r).wf = true := by
  obtain ⟨xs, n', _, rfl, hlen, hxl, hf⟩ := DataW.trod_struct Try.underlying26 h
  rw [cellsVal] at hlen
  have hxl4 : xs.length = 4 := hxl
  obtain ⟨v0, v1, v2, v3, v4, rfl⟩ := len5 hlen
  obtain ⟨y0, y1, y2, y3, rfl⟩ := len4u hxl4
  have f0 : DataW.trod enc Try.prog W base sp held n' 3 (([v0, v1, v2, v3, v4].drop 0).take (Try.prog.cellsOf 3)) = some y0 := hf 0 _ rfl
  have f1 : DataW.trod enc Try.prog W base sp held n' 24 (([v0, v1, v2, v3, v4].drop 1).take (Try.prog.cellsOf 24)) = some y1 := hf 1 _ rfl
  have f2 : DataW.trod enc Try.prog W base sp held n' 9 (([v0, v1, v2, v3, v4].drop 3).take (Try.prog.cellsOf 9)) = some y2 := hf 2 _ rfl
  have f3 : DataW.trod enc Try.prog W base sp held n' 3 (([v0, v1, v2, v3, v4].drop 4).take (Try.prog.cellsOf 3)) = some y3 := hf 3 _ rfl
  rw [cellsIntU] at f0 f3
  rw [cellsStrU] at f2
  rw [cellsNum] at f1
  obtain ⟨zs, n2, _, rfl, _, hzl, hg⟩ := DataW.trod_struct Try.underlying24 f1
  have hzl2 : zs.length = 2 := hzl
  obtain ⟨z0, z1, rfl⟩ := len2u hzl2
  simp only [List.drop_succ_cons, List.drop_zero, List.take_succ_cons, List.take_zero] at hg
  have g0 : DataW.trod enc Try.prog W base sp held n2 3 (([v1, v2].drop 0).take (Try.prog.cellsOf 3)) = some z0 := hg 0 _ rfl
  have g1 : DataW.trod enc Try.prog W base sp held n2 3 (([v1, v2].drop 1).take (Try.prog.cellsOf 3)) = some z1 := hg 1 _ rfl
  rw [cellsIntU] at g0 g1
  obtain ⟨k, e0, rfl, wk⟩ := DataW.trod_int Try.underlying3 f0
  obtain ⟨s, e2, rfl, ws⟩ := DataW.trod_string Try.underlying9 f2
  obtain ⟨r, e3, rfl, wr⟩ := DataW.trod_int Try.underlying3 f3
  obtain ⟨p, e4, rfl, wp⟩ := DataW.trod_int Try.underlying3 g0
  obtain ⟨q, e5, rfl, wq⟩ := DataW.trod_int Try.underlying3 g1
  simp only [List.drop_zero, List.drop_succ_cons, List.take_succ_cons, List.take_zero, List.cons.injEq, and_true] at e0 e2 e3 e4 e5
  subst e0 e2 e3 e4 e5
  exact ⟨k, p, q, s, r, rfl, rfl, wk, wp, wq, ws, wr⟩
set_option maxRecDepth 100000 in
theorem open_val {H : Type} {enc : TypeId × Value → H} {W : World} {base b0 : Nat} {sp : Nat → Bool} {held : Bool} {rc : Reach} {v : Value} {d : DataW H} {pl : List MemPlace} (hv : Value.okWide Try.prog W rc b0 26 v) (h : DataW.Trod enc Try.prog W base sp held 26 v d pl) :
    ∃ k p q s r, v = .agg #[.int .i64 k, .int .i64 p, .int .i64 q, .string s, .int .i64 r] ∧ d = valD k p q s r ∧ pl = [] ∧ (Lit.int .i64 k).wf = true ∧ (Lit.int .i64 p).wf = true ∧ (Lit.int .i64 q).wf = true ∧ s.size ≤ maxLen ∧ (Lit.int .i64 r).wf = true := by
  obtain ⟨cs, rfl, hsz⟩ := okWide_struct Try.underlying26 hv
  obtain ⟨fuel, hf⟩ := h
  obtain ⟨k, p, q, s, r, hc, hx, w⟩ := trod_val hf
  have hc2 : cs.toList = [.int .i64 k, .int .i64 p, .int .i64 q, .string s, .int .i64 r] := hc
  obtain rfl : cs = #[.int .i64 k, .int .i64 p, .int .i64 q, .string s, .int .i64 r] := by
    cases cs; exact congrArg Array.mk hc2
  injection hx with h1 h2
  exact ⟨k, p, q, s, r, rfl, h1, h2, w⟩
theorem val_trod {H : Type} {enc : TypeId × Value → H} {W : World} {base : Nat} {sp : Nat → Bool} {held : Bool} (n : Nat) {k p q : Int} {s : ByteArray} {r : Int} (wk : (Lit.int .i64 k).wf = true) (wp : (Lit.int .i64 p).wf = true) (wq : (Lit.int .i64 q).wf = true) (ws : s.size ≤ maxLen) (wr : (Lit.int .i64 r).wf = true) :
    DataW.trod enc Try.prog W base sp held (n + 3) 26 [.int .i64 k, .int .i64 p, .int .i64 q, .string s, .int .i64 r] = some (valD k p q s r, []) := by
  have fi : ∀ (m : Nat) (x : Int), (Lit.int .i64 x).wf = true → DataW.trod enc Try.prog W base sp held (m + 1) 3 [.int .i64 x] = some (.lit (.int .i64 x), []) := fun m x hx => by simp [DataW.trod, Try.underlying3, hx]
  have fs : ∀ (m : Nat), DataW.trod enc Try.prog W base sp held (m + 1) 9 [.string s] = some (.lit (.string s.data.toList), []) := fun m => by simp [DataW.trod, Try.underlying9, ws]
  have fn : DataW.trod enc Try.prog W base sp held (n + 2) 24 [.int .i64 p, .int .i64 q] = some (.agg [.lit (.int .i64 p), .lit (.int .i64 q)], []) := by
    have := trod_struct_mk (enc := enc) (P := Try.prog) (w := W) (base := base) (spare := sp) (held := held) (n := n + 1) (cs := [.int .i64 p, .int .i64 q]) (xs := [(.lit (.int .i64 p), []), (.lit (.int .i64 q), [])]) Try.underlying24 (by rw [cellsNum]; rfl) (by
      have a := fi n p wp
      have b := fi n q wq
      simp [cellsIntU, a, b])
    simpa using this
  have := trod_struct_mk (enc := enc) (P := Try.prog) (w := W) (base := base) (spare := sp) (held := held) (n := n + 2) (cs := [.int .i64 k, .int .i64 p, .int .i64 q, .string s, .int .i64 r]) (xs := [(.lit (.int .i64 k), []), (.agg [.lit (.int .i64 p), .lit (.int .i64 q)], []), (.lit (.string s.data.toList), []), (.lit (.int .i64 r), [])]) Try.underlying26 (by rw [cellsVal]; rfl) (by
    have a := fi (n + 1) k wk
    have b := fi (n + 1) r wr
    have c := fs (n + 1)
    simp [cellsIntU, cellsStrU, cellsNum, a, b, c, fn])
  simpa [valD] using this
theorem shut_val {H : Type} {enc : TypeId × Value → H} {W : World} {base : Nat} {sp : Nat → Bool} {held : Bool} {k p q : Int} {s : ByteArray} {r : Int} (wk : (Lit.int .i64 k).wf = true) (wp : (Lit.int .i64 p).wf = true) (wq : (Lit.int .i64 q).wf = true) (ws : s.size ≤ maxLen) (wr : (Lit.int .i64 r).wf = true) :
    DataW.Trod enc Try.prog W base sp held 26 (.agg #[.int .i64 k, .int .i64 p, .int .i64 q, .string s, .int .i64 r]) (valD k p q s r) [] := ⟨3, val_trod 0 wk wp wq ws wr⟩
theorem open_vals {H : Type} {enc : TypeId × Value → H} {W : World} {sp : Nat → Bool} {fuel len cap : Nat} {a : Option Addr} {x : DataW H × List MemPlace} (h : DataW.trod enc Try.prog W 0 sp true fuel 22 [.slice a len cap] = some x) :
    ∃ l : List V5, ValsA W (.slice a len cap) l ∧ l.length = len ∧ len ≤ maxLen := by
  rcases open_slice Try.underlying22 h with ⟨hc, _⟩ | ⟨b, len', cap', m, n, D, Pl, hc, _, hl, hcm, hmm, _, hi⟩
  · simp only [List.cons.injEq, Value.slice.injEq, and_true] at hc
    obtain ⟨rfl, rfl, rfl⟩ := hc
    exact ⟨[], vals_nil _ _, rfl, Nat.zero_le _⟩
  · simp only [List.cons.injEq, Value.slice.injEq, and_true] at hc
    obtain ⟨rfl, rfl, rfl⟩ := hc
    have hlm : len ≤ m := by rw [hmm]; split <;> omega
    have each : ∀ i, i < len → ∃ y : V5, ∀ j, j < 5 → W.cell? ((b.add (i * 5)).add j) = (vC y)[j]? := by
      intro i hil
      obtain ⟨cs, h1, h2⟩ := hi i (by omega)
      rw [cellsVal] at h1
      obtain ⟨_, hlen, hcell⟩ := World.cells?_some h1
      obtain ⟨k, p, q, s, r, rfl, _⟩ := trod_val h2
      exact ⟨⟨k, p, q, s, r⟩, fun j hj => hcell j hj⟩
    obtain ⟨I, hI⟩ : ∃ I : Nat → V5, ∀ i, i < len → ∀ j, j < 5 → W.cell? ((b.add (i * 5)).add j) = (vC (I i))[j]? :=
      ⟨fun i => if h : i < len then Classical.choose (each i h) else v5z, fun i h => by have := Classical.choose_spec (each i h); simpa [h] using this⟩
    obtain ⟨g, o, spt⟩ := b
    refine ⟨(List.range len).map I, ⟨some ⟨g, o, spt⟩, cap, by simp, fun h0 => ?_⟩, by simp, Nat.le_trans hl hcm⟩
    have h0 : 0 < len := by simpa using h0
    have hsp : spt = none := by
      have h9 : W.cell? _ = some (.int .i64 (I 0).k) := hI 0 h0 0 (by omega)
      have := World.cell?_spot h9
      simpa [Addr.add] using this
    subst hsp
    have h9 : W.cell? _ = some (.int .i64 (I 0).k) := hI 0 h0 0 (by omega)
    refine ⟨g, o, rfl, World.block_lt_of_cell? W _ h9, fun j m hj hm => ?_⟩
    have hjl : j < len := by simpa using hj
    have h1 := hI j hjl m hm
    rw [addr_addQ, addr_addQ] at h1
    rw [List.getElem_map, List.getElem_range]
    exact h1
theorem cellsSl : Try.prog.cellsOf 22 = 1 := by kernel_rfl
theorem open_va {H : Type} {enc : TypeId × Value → H} {W : World} {sp : Nat → Bool} {fuel : Nat} {cs : List Value} {x : DataW H × List MemPlace} (h : DataW.trod enc Try.prog W 0 sp true fuel 22 cs = some x) :
    ∃ v l, cs = [v] ∧ VA W v l ∧ l.length ≤ maxLen := by
  rcases open_slice Try.underlying22 h with ⟨hc, _⟩ | ⟨b, len, cap, m, n, D, Pl, hc, _⟩
  · exact ⟨_, [], hc, VA.nil W, Nat.zero_le _⟩
  · subst hc
    obtain ⟨l, h1, h2, h3⟩ := open_vals h
    exact ⟨_, l, rfl, ⟨some b, cap, by rw [h2], (fun e => by cases e), h1⟩, by omega⟩
theorem cellsAct : Try.prog.cellsOf 31 = 12 := by kernel_rfl
theorem lenActc {α : Type} {l : List α} (h : l.length = 12) : ∃ z0 z1 z2 z3 z4 z5 z6 z7 z8 z9 z10 z11, l = [z0, z1, z2, z3, z4, z5, z6, z7, z8, z9, z10, z11] := by
  match l, h with
  | [z0, z1, z2, z3, z4, z5, z6, z7, z8, z9, z10, z11], _ => exact ⟨z0, z1, z2, z3, z4, z5, z6, z7, z8, z9, z10, z11, rfl⟩
theorem lenActf {α : Type} {l : List α} (h : l.length = 8) : ∃ y0 y1 y2 y3 y4 y5 y6 y7, l = [y0, y1, y2, y3, y4, y5, y6, y7] := by
  match l, h with
  | [y0, y1, y2, y3, y4, y5, y6, y7], _ => exact ⟨y0, y1, y2, y3, y4, y5, y6, y7, rfl⟩
set_option maxRecDepth 100000 in
theorem open_Act {H : Type} {enc : TypeId × Value → H} {W : World} {b0 : Nat} {sp : Nat → Bool} {rc : Reach} {v : Value} {d : DataW H} {pl : List MemPlace} (hv : Value.okWide Try.prog W rc b0 31 v) (h : DataW.Trod enc Try.prog W 0 sp true 31 v d pl) :
    ∃ vl vk, ∃ a : Act, v = aV a vl vk ∧ VA W vl a.l ∧ VA W vk a.kp ∧ a.l.length ≤ maxLen ∧ a.kp.length ≤ maxLen := by
  obtain ⟨cs, rfl, hsz⟩ := okWide_struct Try.underlying31 hv
  obtain ⟨fuel, hf0⟩ := h
  have hf1 : DataW.trod enc Try.prog W 0 sp true fuel 31 cs.toList = some (d, pl) := hf0
  obtain ⟨xs, n', _, _, hlen, hxl, hf⟩ := DataW.trod_struct Try.underlying31 hf1
  rw [cellsAct] at hlen
  have hxl4 : xs.length = 8 := hxl
  obtain ⟨z0, z1, z2, z3, z4, z5, z6, z7, z8, z9, z10, z11, hcs⟩ := lenActc hlen
  obtain ⟨y0, y1, y2, y3, y4, y5, y6, y7, rfl⟩ := lenActf hxl4
  obtain rfl : cs = #[z0, z1, z2, z3, z4, z5, z6, z7, z8, z9, z10, z11] := by
    cases cs; exact congrArg Array.mk hcs
  have fq0 : DataW.trod enc Try.prog W 0 sp true n' 3 (([z0, z1, z2, z3, z4, z5, z6, z7, z8, z9, z10, z11].drop 0).take (Try.prog.cellsOf 3)) = some y0 := hf 0 _ rfl
  rw [cellsIntU] at fq0
  have fq1 : DataW.trod enc Try.prog W 0 sp true n' 3 (([z0, z1, z2, z3, z4, z5, z6, z7, z8, z9, z10, z11].drop 1).take (Try.prog.cellsOf 3)) = some y1 := hf 1 _ rfl
  rw [cellsIntU] at fq1
  have fq2 : DataW.trod enc Try.prog W 0 sp true n' 26 (([z0, z1, z2, z3, z4, z5, z6, z7, z8, z9, z10, z11].drop 2).take (Try.prog.cellsOf 26)) = some y2 := hf 2 _ rfl
  rw [cellsVal] at fq2
  have fq3 : DataW.trod enc Try.prog W 0 sp true n' 22 (([z0, z1, z2, z3, z4, z5, z6, z7, z8, z9, z10, z11].drop 7).take (Try.prog.cellsOf 22)) = some y3 := hf 3 _ rfl
  rw [cellsSl] at fq3
  have fq4 : DataW.trod enc Try.prog W 0 sp true n' 9 (([z0, z1, z2, z3, z4, z5, z6, z7, z8, z9, z10, z11].drop 8).take (Try.prog.cellsOf 9)) = some y4 := hf 4 _ rfl
  rw [cellsStrU] at fq4
  have fq5 : DataW.trod enc Try.prog W 0 sp true n' 3 (([z0, z1, z2, z3, z4, z5, z6, z7, z8, z9, z10, z11].drop 9).take (Try.prog.cellsOf 3)) = some y5 := hf 5 _ rfl
  rw [cellsIntU] at fq5
  have fq6 : DataW.trod enc Try.prog W 0 sp true n' 3 (([z0, z1, z2, z3, z4, z5, z6, z7, z8, z9, z10, z11].drop 10).take (Try.prog.cellsOf 3)) = some y6 := hf 6 _ rfl
  rw [cellsIntU] at fq6
  have fq7 : DataW.trod enc Try.prog W 0 sp true n' 22 (([z0, z1, z2, z3, z4, z5, z6, z7, z8, z9, z10, z11].drop 11).take (Try.prog.cellsOf 22)) = some y7 := hf 7 _ rfl
  rw [cellsSl] at fq7
  obtain ⟨k, e0, rfl, wk⟩ := DataW.trod_int Try.underlying3 fq0
  obtain ⟨op, e1, rfl, wop⟩ := DataW.trod_int Try.underlying3 fq1
  obtain ⟨f1, f2, f3, f4, f5, e2, rfl, wf1, wf2, wf3, wf4, wf5⟩ := trod_val fq2
  obtain ⟨xl, l, e3, hl, wl⟩ := open_va fq3
  obtain ⟨s, e4, rfl, ws⟩ := DataW.trod_string Try.underlying9 fq4
  obtain ⟨lv, e5, rfl, wlv⟩ := DataW.trod_int Try.underlying3 fq5
  obtain ⟨nx, e6, rfl, wnx⟩ := DataW.trod_int Try.underlying3 fq6
  obtain ⟨xkp, kp, e7, hkp, wkp⟩ := open_va fq7
  simp only [List.drop_zero, List.drop_succ_cons, List.take_succ_cons, List.take_zero, List.cons.injEq, and_true] at e0 e1 e2 e3 e4 e5 e6 e7
  subst e0
  subst e1
  obtain ⟨rfl, rfl, rfl, rfl, rfl⟩ := e2
  subst e3
  subst e4
  subst e5
  subst e6
  subst e7
  exact ⟨_, _, ⟨k, op, ⟨f1, f2, f3, f4, f5⟩, l, s, lv, nx, kp⟩, rfl, hl, hkp, wl, wkp⟩
theorem cellsNd : Try.prog.cellsOf 45 = 14 := by kernel_rfl
theorem lenNdc {α : Type} {l : List α} (h : l.length = 14) : ∃ z0 z1 z2 z3 z4 z5 z6 z7 z8 z9 z10 z11 z12 z13, l = [z0, z1, z2, z3, z4, z5, z6, z7, z8, z9, z10, z11, z12, z13] := by
  match l, h with
  | [z0, z1, z2, z3, z4, z5, z6, z7, z8, z9, z10, z11, z12, z13], _ => exact ⟨z0, z1, z2, z3, z4, z5, z6, z7, z8, z9, z10, z11, z12, z13, rfl⟩
theorem lenNdf {α : Type} {l : List α} (h : l.length = 6) : ∃ y0 y1 y2 y3 y4 y5, l = [y0, y1, y2, y3, y4, y5] := by
  match l, h with
  | [y0, y1, y2, y3, y4, y5], _ => exact ⟨y0, y1, y2, y3, y4, y5, rfl⟩
set_option maxRecDepth 100000 in
theorem open_Nd {H : Type} {enc : TypeId × Value → H} {W : World} {b0 : Nat} {sp : Nat → Bool} {rc : Reach} {v : Value} {d : DataW H} {pl : List MemPlace} (hv : Value.okWide Try.prog W rc b0 45 v) (h : DataW.Trod enc Try.prog W 0 sp true 45 v d pl) :
    ∃ va, ∃ n : Nd, v = .agg #[.int .i64 n.k, .int .i64 n.v.k, .int .i64 n.v.p, .int .i64 n.v.q, .string n.v.s, .int .i64 n.v.r, .int .i64 n.f.k, .int .i64 n.f.p, .int .i64 n.f.q, .string n.f.s, .int .i64 n.f.r, va, .int .i64 n.af, .string n.s] ∧ VA W va n.l ∧ n.l.length ≤ maxLen := by
  obtain ⟨cs, rfl, hsz⟩ := okWide_struct Try.underlying45 hv
  obtain ⟨fuel, hf0⟩ := h
  have hf1 : DataW.trod enc Try.prog W 0 sp true fuel 45 cs.toList = some (d, pl) := hf0
  obtain ⟨xs, n', _, _, hlen, hxl, hf⟩ := DataW.trod_struct Try.underlying45 hf1
  rw [cellsNd] at hlen
  have hxl4 : xs.length = 6 := hxl
  obtain ⟨z0, z1, z2, z3, z4, z5, z6, z7, z8, z9, z10, z11, z12, z13, hcs⟩ := lenNdc hlen
  obtain ⟨y0, y1, y2, y3, y4, y5, rfl⟩ := lenNdf hxl4
  obtain rfl : cs = #[z0, z1, z2, z3, z4, z5, z6, z7, z8, z9, z10, z11, z12, z13] := by
    cases cs; exact congrArg Array.mk hcs
  have fq0 : DataW.trod enc Try.prog W 0 sp true n' 3 (([z0, z1, z2, z3, z4, z5, z6, z7, z8, z9, z10, z11, z12, z13].drop 0).take (Try.prog.cellsOf 3)) = some y0 := hf 0 _ rfl
  rw [cellsIntU] at fq0
  have fq1 : DataW.trod enc Try.prog W 0 sp true n' 26 (([z0, z1, z2, z3, z4, z5, z6, z7, z8, z9, z10, z11, z12, z13].drop 1).take (Try.prog.cellsOf 26)) = some y1 := hf 1 _ rfl
  rw [cellsVal] at fq1
  have fq2 : DataW.trod enc Try.prog W 0 sp true n' 26 (([z0, z1, z2, z3, z4, z5, z6, z7, z8, z9, z10, z11, z12, z13].drop 6).take (Try.prog.cellsOf 26)) = some y2 := hf 2 _ rfl
  rw [cellsVal] at fq2
  have fq3 : DataW.trod enc Try.prog W 0 sp true n' 22 (([z0, z1, z2, z3, z4, z5, z6, z7, z8, z9, z10, z11, z12, z13].drop 11).take (Try.prog.cellsOf 22)) = some y3 := hf 3 _ rfl
  rw [cellsSl] at fq3
  have fq4 : DataW.trod enc Try.prog W 0 sp true n' 3 (([z0, z1, z2, z3, z4, z5, z6, z7, z8, z9, z10, z11, z12, z13].drop 12).take (Try.prog.cellsOf 3)) = some y4 := hf 4 _ rfl
  rw [cellsIntU] at fq4
  have fq5 : DataW.trod enc Try.prog W 0 sp true n' 9 (([z0, z1, z2, z3, z4, z5, z6, z7, z8, z9, z10, z11, z12, z13].drop 13).take (Try.prog.cellsOf 9)) = some y5 := hf 5 _ rfl
  rw [cellsStrU] at fq5
  obtain ⟨k, e0, rfl, wk⟩ := DataW.trod_int Try.underlying3 fq0
  obtain ⟨v1, v2, v3, v4, v5, e1, rfl, wv1, wv2, wv3, wv4, wv5⟩ := trod_val fq1
  obtain ⟨f1, f2, f3, f4, f5, e2, rfl, wf1, wf2, wf3, wf4, wf5⟩ := trod_val fq2
  obtain ⟨xl, l, e3, hl, wl⟩ := open_va fq3
  obtain ⟨af, e4, rfl, waf⟩ := DataW.trod_int Try.underlying3 fq4
  obtain ⟨s, e5, rfl, ws⟩ := DataW.trod_string Try.underlying9 fq5
  simp only [List.drop_zero, List.drop_succ_cons, List.take_succ_cons, List.take_zero, List.cons.injEq, and_true] at e0 e1 e2 e3 e4 e5
  subst e0
  obtain ⟨rfl, rfl, rfl, rfl, rfl⟩ := e1
  obtain ⟨rfl, rfl, rfl, rfl, rfl⟩ := e2
  subst e3
  subst e4
  subst e5
  exact ⟨_, ⟨k, ⟨v1, v2, v3, v4, v5⟩, ⟨f1, f2, f3, f4, f5⟩, l, af, s⟩, rfl, hl, wl⟩
end Go.Proofs.Ytdgdpckjcpgoaaa
