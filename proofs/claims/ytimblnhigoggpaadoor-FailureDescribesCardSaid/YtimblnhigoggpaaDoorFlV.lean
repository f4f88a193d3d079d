/- Layer 19: what a law begins with: values, places, failures opened; the library's variables. -/
import Derived.Test.YtimblnhigoggpaaDoorFlF
import Derived.Test.YtimblnhigoggpaaDoorCards
import Derived.Test.YtimblnhigoggpaaDoorTie
import Derived.ChangeArms
import Derived.ProofKit
import Derived.OpenShut
import Derived.ChangeOld
import Derived.ChangeMaps5
import Derived.Below
import Derived.Lib.SmallJoins
import Derived.Carry
import Derived.Deep.Slices
import Derived.Deep.DeepHandedRow
import Derived.Stop.LaidErr
import Derived.Lib.LaidTab
import Derived.Lay
import Derived.MakeChecks
namespace Go.Proofs.YtimblnhigoggpaaDoor
open Go.ChangeShapes Go.WideShapes Go.ChangeAt Go.RowKit Go.Joins Go.Deep M1
set_option linter.unusedVariables false
theorem own : ownKnob Tryd.prog.godebug = none := by kernel_rfl
theorem cellsNum : Tryd.prog.cellsOf 23 = 2 := by kernel_rfl
theorem cellsVal : Tryd.prog.cellsOf 25 = 5 := by kernel_rfl
theorem cellsIntU : Tryd.prog.cellsOf 3 = 1 := by kernel_rfl
theorem cellsStrU : Tryd.prog.cellsOf 9 = 1 := by kernel_rfl
theorem len5 {α : Type} {l : List α} (h : l.length = 5) : ∃ a b c d e, l = [a, b, c, d, e] := by
  match l, h with
  | [a, b, c, d, e], _ => exact ⟨a, b, c, d, e, rfl⟩
theorem len4u {α : Type} {l : List α} (h : l.length = 4) : ∃ a b c d, l = [a, b, c, d] := by
  match l, h with
  | [a, b, c, d], _ => exact ⟨a, b, c, d, rfl⟩
theorem len2u {α : Type} {l : List α} (h : l.length = 2) : ∃ a b, l = [a, b] := by
  match l, h with
  | [a, b], _ => exact ⟨a, b, rfl⟩
def valD {H : Type} (k p q : Int) (s : ByteArray) (r : Int) : DataW H := .agg [.lit (.int .i64 k), .agg [.lit (.int .i64 p), .lit (.int .i64 q)], .lit (.string s.data.toList), .lit (.int .i64 r)]
theorem trod_val {H : Type} {enc : TypeId × Value → H} {W : World} {base : Nat} {sp : Nat → Bool} {held : Bool} {fuel : Nat} {cs : List Value} {x : DataW H × List MemPlace} (h : DataW.trod enc Tryd.prog W base sp held fuel 25 cs = some x) :
    ∃ k p q s r, cs = [.int .i64 k, .int .i64 p, .int .i64 q, .string s, .int .i64 r] ∧ x = (valD k p q s r, []) ∧ (Lit.int .i64 k).wf = true ∧ (Lit.int .i64 p).wf = true ∧ (Lit.int .i64 q).wf = true ∧ s.size ≤ maxLen ∧ (Lit.int .i64 r).wf = true := by
  obtain ⟨xs, n', _, rfl, hlen, hxl, hf⟩ := DataW.trod_struct Tryd.underlying25 h
  rw [cellsVal] at hlen
  have hxl4 : xs.length = 4 := hxl
  obtain ⟨v0, v1, v2, v3, v4, rfl⟩ := len5 hlen
  obtain ⟨y0, y1, y2, y3, rfl⟩ := len4u hxl4
  have f0 : DataW.trod enc Tryd.prog W base sp held n' 3 (([v0, v1, v2, v3, v4].drop 0).take (Tryd.prog.cellsOf 3)) = some y0 := hf 0 _ rfl
  have f1 : DataW.trod enc Tryd.prog W base sp held n' 23 (([v0, v1, v2, v3, v4].drop 1).take (Tryd.prog.cellsOf 23)) = some y1 := hf 1 _ rfl
  have f2 : DataW.trod enc Tryd.prog W base sp held n' 9 (([v0, v1, v2, v3, v4].drop 3).take (Tryd.prog.cellsOf 9)) = some y2 := hf 2 _ rfl
  have f3 : DataW.trod enc Tryd.prog W base sp held n' 3 (([v0, v1, v2, v3, v4].drop 4).take (Tryd.prog.cellsOf 3)) = some y3 := hf 3 _ rfl
  rw [cellsIntU] at f0 f3
  rw [cellsStrU] at f2
  rw [cellsNum] at f1
  obtain ⟨zs, n2, _, rfl, _, hzl, hg⟩ := DataW.trod_struct Tryd.underlying23 f1
  have hzl2 : zs.length = 2 := hzl
  obtain ⟨z0, z1, rfl⟩ := len2u hzl2
  simp only [List.drop_succ_cons, List.drop_zero, List.take_succ_cons, List.take_zero] at hg
  have g0 : DataW.trod enc Tryd.prog W base sp held n2 3 (([v1, v2].drop 0).take (Tryd.prog.cellsOf 3)) = some z0 := hg 0 _ rfl
  have g1 : DataW.trod enc Tryd.prog W base sp held n2 3 (([v1, v2].drop 1).take (Tryd.prog.cellsOf 3)) = some z1 := hg 1 _ rfl
  rw [cellsIntU] at g0 g1
  obtain ⟨k, e0, rfl, wk⟩ := DataW.trod_int Tryd.underlying3 f0
  obtain ⟨s, e2, rfl, ws⟩ := DataW.trod_string Tryd.underlying9 f2
  obtain ⟨r, e3, rfl, wr⟩ := DataW.trod_int Tryd.underlying3 f3
  obtain ⟨p, e4, rfl, wp⟩ := DataW.trod_int Tryd.underlying3 g0
  obtain ⟨q, e5, rfl, wq⟩ := DataW.trod_int Tryd.underlying3 g1
  simp only [List.drop_zero, List.drop_succ_cons, List.take_succ_cons, List.take_zero, List.cons.injEq, and_true] at e0 e2 e3 e4 e5
  subst e0 e2 e3 e4 e5
  exact ⟨k, p, q, s, r, rfl, rfl, wk, wp, wq, ws, wr⟩
set_option maxRecDepth 100000 in
theorem open_val {H : Type} {enc : TypeId × Value → H} {W : World} {base b0 : Nat} {sp : Nat → Bool} {held : Bool} {rc : Reach} {v : Value} {d : DataW H} {pl : List MemPlace} (hv : Value.okWide Tryd.prog W rc b0 25 v) (h : DataW.Trod enc Tryd.prog W base sp held 25 v d pl) :
    ∃ k p q s r, v = .agg #[.int .i64 k, .int .i64 p, .int .i64 q, .string s, .int .i64 r] ∧ d = valD k p q s r ∧ pl = [] ∧ (Lit.int .i64 k).wf = true ∧ (Lit.int .i64 p).wf = true ∧ (Lit.int .i64 q).wf = true ∧ s.size ≤ maxLen ∧ (Lit.int .i64 r).wf = true := by
  obtain ⟨cs, rfl, hsz⟩ := okWide_struct Tryd.underlying25 hv
  obtain ⟨fuel, hf⟩ := h
  obtain ⟨k, p, q, s, r, hc, hx, w⟩ := trod_val hf
  have hc2 : cs.toList = [.int .i64 k, .int .i64 p, .int .i64 q, .string s, .int .i64 r] := hc
  obtain rfl : cs = #[.int .i64 k, .int .i64 p, .int .i64 q, .string s, .int .i64 r] := by
    cases cs; exact congrArg Array.mk hc2
  injection hx with h1 h2
  exact ⟨k, p, q, s, r, rfl, h1, h2, w⟩
theorem val_trod {H : Type} {enc : TypeId × Value → H} {W : World} {base : Nat} {sp : Nat → Bool} {held : Bool} (n : Nat) {k p q : Int} {s : ByteArray} {r : Int} (wk : (Lit.int .i64 k).wf = true) (wp : (Lit.int .i64 p).wf = true) (wq : (Lit.int .i64 q).wf = true) (ws : s.size ≤ maxLen) (wr : (Lit.int .i64 r).wf = true) :
    DataW.trod enc Tryd.prog W base sp held (n + 3) 25 [.int .i64 k, .int .i64 p, .int .i64 q, .string s, .int .i64 r] = some (valD k p q s r, []) := by
  have fi : ∀ (m : Nat) (x : Int), (Lit.int .i64 x).wf = true → DataW.trod enc Tryd.prog W base sp held (m + 1) 3 [.int .i64 x] = some (.lit (.int .i64 x), []) := fun m x hx => by simp [DataW.trod, Tryd.underlying3, hx]
  have fs : ∀ (m : Nat), DataW.trod enc Tryd.prog W base sp held (m + 1) 9 [.string s] = some (.lit (.string s.data.toList), []) := fun m => by simp [DataW.trod, Tryd.underlying9, ws]
  have fn : DataW.trod enc Tryd.prog W base sp held (n + 2) 23 [.int .i64 p, .int .i64 q] = some (.agg [.lit (.int .i64 p), .lit (.int .i64 q)], []) := by
    have := trod_struct_mk (enc := enc) (P := Tryd.prog) (w := W) (base := base) (spare := sp) (held := held) (n := n + 1) (cs := [.int .i64 p, .int .i64 q]) (xs := [(.lit (.int .i64 p), []), (.lit (.int .i64 q), [])]) Tryd.underlying23 (by rw [cellsNum]; rfl) (by
      have a := fi n p wp
      have b := fi n q wq
      simp [cellsIntU, a, b])
    simpa using this
  have := trod_struct_mk (enc := enc) (P := Tryd.prog) (w := W) (base := base) (spare := sp) (held := held) (n := n + 2) (cs := [.int .i64 k, .int .i64 p, .int .i64 q, .string s, .int .i64 r]) (xs := [(.lit (.int .i64 k), []), (.agg [.lit (.int .i64 p), .lit (.int .i64 q)], []), (.lit (.string s.data.toList), []), (.lit (.int .i64 r), [])]) Tryd.underlying25 (by rw [cellsVal]; rfl) (by
    have a := fi (n + 1) k wk
    have b := fi (n + 1) r wr
    have c := fs (n + 1)
    simp [cellsIntU, cellsStrU, cellsNum, a, b, c, fn])
  simpa [valD] using this
theorem shut_val {H : Type} {enc : TypeId × Value → H} {W : World} {base : Nat} {sp : Nat → Bool} {held : Bool} {k p q : Int} {s : ByteArray} {r : Int} (wk : (Lit.int .i64 k).wf = true) (wp : (Lit.int .i64 p).wf = true) (wq : (Lit.int .i64 q).wf = true) (ws : s.size ≤ maxLen) (wr : (Lit.int .i64 r).wf = true) :
    DataW.Trod enc Tryd.prog W base sp held 25 (.agg #[.int .i64 k, .int .i64 p, .int .i64 q, .string s, .int .i64 r]) (valD k p q s r) [] := ⟨3, val_trod 0 wk wp wq ws wr⟩
theorem cellsBoolU : Tryd.prog.cellsOf 4 = 1 := by kernel_rfl
theorem cellsPl : Tryd.prog.cellsOf 44 = 3 := by kernel_rfl
theorem cellsPls : Tryd.prog.cellsOf 26 = 1 := by kernel_rfl
theorem cellsFl : Tryd.prog.cellsOf 31 = 6 := by kernel_rfl
theorem len3u {α : Type} {l : List α} (h : l.length = 3) : ∃ a b c, l = [a, b, c] := by
  match l, h with
  | [a, b, c], _ => exact ⟨a, b, c, rfl⟩
theorem len6u {α : Type} {l : List α} (h : l.length = 6) : ∃ a b c d e f, l = [a, b, c, d, e, f] := by
  match l, h with
  | [a, b, c, d, e, f], _ => exact ⟨a, b, c, d, e, f, rfl⟩
theorem trod_pl {H : Type} {enc : TypeId × Value → H} {W : World} {base : Nat} {sp : Nat → Bool} {held : Bool} {fuel : Nat} {cs : List Value} {x : DataW H × List MemPlace} (h : DataW.trod enc Tryd.prog W base sp held fuel 44 cs = some x) :
    ∃ p : Pl, cs = pC p ∧ p.n.size ≤ maxLen ∧ (Lit.int .i64 p.l).wf = true := by
  obtain ⟨xs, n', _, rfl, hlen, hxl, hf⟩ := DataW.trod_struct Tryd.underlying44 h
  rw [cellsPl] at hlen
  have hxl3 : xs.length = 3 := hxl
  obtain ⟨z0, z1, z2, rfl⟩ := len3u hlen
  obtain ⟨y0, y1, y2, rfl⟩ := len3u hxl3
  have fq0 : DataW.trod enc Tryd.prog W base sp held n' 9 (([z0, z1, z2].drop 0).take (Tryd.prog.cellsOf 9)) = some y0 := hf 0 _ rfl
  have fq1 : DataW.trod enc Tryd.prog W base sp held n' 3 (([z0, z1, z2].drop 1).take (Tryd.prog.cellsOf 3)) = some y1 := hf 1 _ rfl
  have fq2 : DataW.trod enc Tryd.prog W base sp held n' 4 (([z0, z1, z2].drop 2).take (Tryd.prog.cellsOf 4)) = some y2 := hf 2 _ rfl
  rw [cellsStrU] at fq0
  rw [cellsIntU] at fq1
  rw [cellsBoolU] at fq2
  obtain ⟨s, e0, rfl, ws⟩ := DataW.trod_string Tryd.underlying9 fq0
  obtain ⟨l, e1, rfl, wl⟩ := DataW.trod_int Tryd.underlying3 fq1
  obtain ⟨b, e2, rfl⟩ := DataW.trod_bool Tryd.underlying4 fq2
  simp only [List.drop_zero, List.drop_succ_cons, List.take_succ_cons, List.take_zero, List.cons.injEq, and_true] at e0 e1 e2
  subst e0 e1 e2
  exact ⟨⟨s, l, b⟩, rfl, ws, wl⟩
theorem open_pa {H : Type} {enc : TypeId × Value → H} {W : World} {sp : Nat → Bool} {fuel : Nat} {cs : List Value} {x : DataW H × List MemPlace} (h : DataW.trod enc Tryd.prog W 0 sp true fuel 26 cs = some x) :
    ∃ v l, cs = [v] ∧ PA W v l ∧ (∀ p ∈ l, p.n.size ≤ maxLen ∧ (Lit.int .i64 p.l).wf = true) := by
  rcases open_slice Tryd.underlying26 h with ⟨hc, _⟩ | ⟨b, len, cap, m, n, D, Pl_, hc, _, hl, hcm, hmm, _, hi⟩
  · exact ⟨_, [], hc, PA.nil W, fun p hp => by cases hp⟩
  · subst hc
    have hlm : len ≤ m := by rw [hmm]; split <;> omega
    have each : ∀ i, i < len → ∃ y : Pl, (∀ j, j < 3 → W.cell? ((b.add (i * 3)).add j) = (pC y)[j]?) ∧ y.n.size ≤ maxLen ∧ (Lit.int .i64 y.l).wf = true := by
      intro i hil
      obtain ⟨cs, h1, h2⟩ := hi i (by omega)
      rw [cellsPl] at h1
      obtain ⟨_, hlen, hcell⟩ := World.cells?_some h1
      obtain ⟨p, rfl, hp⟩ := trod_pl h2
      exact ⟨p, fun j hj => hcell j hj, hp⟩
    obtain ⟨I, hI⟩ : ∃ I : Nat → Pl, ∀ i, i < len → (∀ j, j < 3 → W.cell? ((b.add (i * 3)).add j) = (pC (I i))[j]?) ∧ (I i).n.size ≤ maxLen ∧ (Lit.int .i64 (I i).l).wf = true :=
      ⟨fun i => if h : i < len then Classical.choose (each i h) else plz, fun i h => by have := Classical.choose_spec (each i h); simpa [h] using this⟩
    obtain ⟨g, o, spt⟩ := b
    refine ⟨_, (List.range len).map I, rfl, ⟨some ⟨g, o, spt⟩, cap, by simp, (fun e => by cases e), ⟨some ⟨g, o, spt⟩, cap, by simp, fun h0 => ?_⟩⟩, fun p hp => ?_⟩
    · have h0 : 0 < len := by simpa using h0
      have h9 : W.cell? _ = some (.string (I 0).n) := (hI 0 h0).1 0 (by omega)
      have hsp : spt = none := by
        have := World.cell?_spot h9
        simpa [Addr.add] using this
      subst hsp
      refine ⟨g, o, rfl, World.block_lt_of_cell? W _ h9, fun j m hj hm => ?_⟩
      have hjl : j < len := by simpa using hj
      have h1 := (hI j hjl).1 m hm
      rw [addr_addQ, addr_addQ] at h1
      rw [List.getElem_map, List.getElem_range]
      exact h1
    · rw [List.mem_map] at hp
      obtain ⟨i, hi2, rfl⟩ := hp
      exact (hI i (List.mem_range.1 hi2)).2
set_option maxRecDepth 100000 in
theorem open_Flr {H : Type} {enc : TypeId × Value → H} {W : World} {b0 : Nat} {sp : Nat → Bool} {rc : Reach} {v : Value} {d : DataW H} {pl : List MemPlace} (hv : Value.okWide Tryd.prog W rc b0 31 v) (h : DataW.Trod enc Tryd.prog W 0 sp true 31 v d pl) :
    ∃ f : Flr, FA W v f ∧ (∀ p ∈ f.t, p.n.size ≤ maxLen ∧ (Lit.int .i64 p.l).wf = true) ∧ (Lit.int .i64 f.v.k).wf = true ∧ (Lit.int .i64 f.v.r).wf = true := by
  obtain ⟨cs, rfl, hsz⟩ := okWide_struct Tryd.underlying31 hv
  obtain ⟨fuel, hf0⟩ := h
  have hf1 : DataW.trod enc Tryd.prog W 0 sp true fuel 31 cs.toList = some (d, pl) := hf0
  obtain ⟨xs, n', _, _, hlen, hxl, hf⟩ := DataW.trod_struct Tryd.underlying31 hf1
  rw [cellsFl] at hlen
  have hxl2 : xs.length = 2 := hxl
  obtain ⟨z0, z1, z2, z3, z4, z5, hcs⟩ := len6u hlen
  obtain ⟨y0, y1, rfl⟩ := len2u hxl2
  obtain rfl : cs = #[z0, z1, z2, z3, z4, z5] := by
    cases cs; exact congrArg Array.mk hcs
  have fq0 : DataW.trod enc Tryd.prog W 0 sp true n' 25 (([z0, z1, z2, z3, z4, z5].drop 0).take (Tryd.prog.cellsOf 25)) = some y0 := hf 0 _ rfl
  rw [cellsVal] at fq0
  have fq1 : DataW.trod enc Tryd.prog W 0 sp true n' 26 (([z0, z1, z2, z3, z4, z5].drop 5).take (Tryd.prog.cellsOf 26)) = some y1 := hf 1 _ rfl
  rw [cellsPls] at fq1
  obtain ⟨k, p, q, s, r, e0, rfl, wk, wp, wq, ws, wr⟩ := trod_val fq0
  obtain ⟨vt, l, e1, hl, wl⟩ := open_pa fq1
  simp only [List.drop_zero, List.drop_succ_cons, List.take_succ_cons, List.take_zero, List.cons.injEq, and_true] at e0 e1
  obtain ⟨rfl, rfl, rfl, rfl, rfl⟩ := e0
  subst e1
  exact ⟨⟨⟨k, p, q, s, r⟩, l⟩, ⟨_, rfl, hl⟩, wl, wk, wr⟩
abbrev L5 : List (String × DataW Unit) := Rows.failureComparesRow.laid
theorem laid_met (os : Os) (args : Array Value) : laidMetH Tryd.prog L5 ((World.laidAll Tryd.prog os L5).forCall (fun _ _ => 0) ⟨#[], args, []⟩).memory := by
  rw [MakeChecks.laidMetH_plain _ _ _ (by kernel_rfl)]
  exact laidMet_laidAll _ (by kernel_rfl) (by kernel_rfl)
theorem wit_shaped (os : Os) (args : Array Value) : ((World.laidAll Tryd.prog os L5).forCall (fun _ _ => 0) ⟨#[], args, []⟩).Shaped Tryd.prog :=
  World.shaped_of_ZipB (by kernel_rfl) (by kernel_rfl)
end Go.Proofs.YtimblnhigoggpaaDoor
