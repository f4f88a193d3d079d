/- Layer 13: the calls that came in. -/
import Derived.Test.YtaaelhhiceildaaOdrV
import Derived.Test.YtaaelhhiceildaaTbY
import Derived.Carry
import Derived.Deep.Slices
namespace Go.Proofs.Ytaaelhhiceildaa
open Go.ChangeShapes Go.WideShapes Go.ChangeAt Go.RowKit Go.Joins Go.Deep M1
set_option linter.unusedVariables false
structure OpA where
  kind : Int
  pos : Int
  key : V5
  val : V5
instance : Inhabited OpA := ⟨⟨0, 0, v5z, v5z⟩⟩
def opC (x : OpA) : List Value := .int .i64 x.kind :: .int .i64 x.pos :: (vC x.key ++ vC x.val)
theorem opC_len (x : OpA) : (opC x).length = 12 := rfl
structure Ops (w : World) (v : Value) (l : List OpA) : Prop where
  form : ∃ p c, v = .slice p l.length c ∧ (0 < l.length → ∃ g o, p = some ⟨g, o, none⟩ ∧ g < w.heap.size ∧ ∀ (j m : Nat) (hj : j < l.length), m < 12 → w.cell? ⟨g, o + j * 12 + m, none⟩ = (opC l[j])[m]?)
theorem ops_nil (w : World) (c : Nat) : Ops w (.slice none 0 c) [] := ⟨_, _, rfl, fun h => absurd h (by decide)⟩
theorem Ops.below {w w' : World} {v : Value} {l : List OpA} (h : Ops w v l) (hb : Below w.heap.size w w') : Ops w' v l := by
  obtain ⟨p, c, rfl, h2⟩ := h.form
  refine ⟨p, c, rfl, fun h0 => ?_⟩
  obtain ⟨g, o, h3, h4, h5⟩ := h2 h0
  exact ⟨g, o, h3, Nat.lt_of_lt_of_le h4 hb.size, fun j m hj hm => (hb.cell (p := ⟨g, _, none⟩) h4).trans (h5 j m hj hm)⟩
theorem cellsOp : Try.prog.cellsOf 34 = 12 := by kernel_rfl
theorem len12 {α : Type} {l : List α} (h : l.length = 12) : ∃ a b c d e f g i j k m n, l = [a, b, c, d, e, f, g, i, j, k, m, n] := by
  match l, h with
  | [a, b, c, d, e, f, g, i, j, k, m, n], _ => exact ⟨a, b, c, d, e, f, g, i, j, k, m, n, rfl⟩
theorem len3q {α : Type} {l : List α} (h : l.length = 3) : ∃ a b c, l = [a, b, c] := by
  match l, h with
  | [a, b, c], _ => exact ⟨a, b, c, rfl⟩
theorem trod_op {H : Type} {enc : TypeId × Value → H} {W : World} {base : Nat} {sp : Nat → Bool} {held : Bool} {fuel : Nat} {cs : List Value} {x : DataW H × List MemPlace} (h : DataW.trod enc Try.prog W base sp held fuel 34 cs = some x) : ∃ y, cs = opC y := by
  obtain ⟨xs, n', _, rfl, hlen, hxl, hf⟩ := DataW.trod_struct Try.underlying34 h
  rw [cellsOp] at hlen
  have hxl3 : xs.length = 4 := hxl
  obtain ⟨v0, v1, v2, v3, v4, v5, v6, v7, v8, v9, v10, v11, rfl⟩ := len12 hlen
  obtain ⟨y0, y1, y2, y3, rfl⟩ := len4u hxl3
  have f0 : DataW.trod enc Try.prog W base sp held n' 3 (([v0, v1, v2, v3, v4, v5, v6, v7, v8, v9, v10, v11].drop 0).take (Try.prog.cellsOf 3)) = some y0 := hf 0 _ rfl
  have f1 : DataW.trod enc Try.prog W base sp held n' 3 (([v0, v1, v2, v3, v4, v5, v6, v7, v8, v9, v10, v11].drop 1).take (Try.prog.cellsOf 3)) = some y1 := hf 1 _ rfl
  have f2 : DataW.trod enc Try.prog W base sp held n' 26 (([v0, v1, v2, v3, v4, v5, v6, v7, v8, v9, v10, v11].drop 2).take (Try.prog.cellsOf 26)) = some y2 := hf 2 _ rfl
  have f3 : DataW.trod enc Try.prog W base sp held n' 26 (([v0, v1, v2, v3, v4, v5, v6, v7, v8, v9, v10, v11].drop 7).take (Try.prog.cellsOf 26)) = some y3 := hf 3 _ rfl
  rw [cellsIntU] at f0 f1
  rw [cellsVal] at f2 f3
  obtain ⟨k, e0, _, _⟩ := DataW.trod_int Try.underlying3 f0
  obtain ⟨k2, e3, _, _⟩ := DataW.trod_int Try.underlying3 f1
  obtain ⟨a1, a2, a3, a4, a5, e1, _⟩ := trod_val f2
  obtain ⟨b1, b2, b3, b4, b5, e2, _⟩ := trod_val f3
  simp only [List.drop_zero, List.drop_succ_cons, List.take_succ_cons, List.take_zero, List.cons.injEq, and_true] at e0 e1 e2 e3
  obtain ⟨rfl, rfl, rfl, rfl, rfl⟩ := e1
  obtain ⟨rfl, rfl, rfl, rfl, rfl⟩ := e2
  subst e0 e3
  exact ⟨⟨k, k2, ⟨a1, a2, a3, a4, a5⟩, ⟨b1, b2, b3, b4, b5⟩⟩, rfl⟩
theorem addr_addQ (g o n : Nat) : (⟨g, o, none⟩ : Addr).add n = ⟨g, o + n, none⟩ := by
  unfold Addr.add; split
  · rename_i h; subst h; rfl
  · rfl
theorem open_ops {H : Type} {enc : TypeId × Value → H} {W : World} {sp : Nat → Bool} {fuel len cap : Nat} {a : Option Addr} {x : DataW H × List MemPlace} (h : DataW.trod enc Try.prog W 0 sp true fuel 22 [.slice a len cap] = some x) :
    ∃ l : List OpA, Ops W (.slice a len cap) l ∧ l.length = len ∧ len ≤ maxLen := by
  rcases open_slice Try.underlying22 h with ⟨hc, _⟩ | ⟨b, len', cap', m, n, D, Pl, hc, _, hl, hcm, hmm, _, hi⟩
  · simp only [List.cons.injEq, Value.slice.injEq, and_true] at hc
    obtain ⟨rfl, rfl, rfl⟩ := hc
    exact ⟨[], ops_nil _ _, rfl, Nat.zero_le _⟩
  · simp only [List.cons.injEq, Value.slice.injEq, and_true] at hc
    obtain ⟨rfl, rfl, rfl⟩ := hc
    have hlm : len ≤ m := by rw [hmm]; split <;> omega
    have each : ∀ i, i < len → ∃ y : OpA, ∀ j, j < 12 → W.cell? ((b.add (i * 12)).add j) = (opC y)[j]? := by
      intro i hil
      obtain ⟨cs, h1, h2⟩ := hi i (by omega)
      rw [cellsOp] at h1
      obtain ⟨_, hlen, hcell⟩ := World.cells?_some h1
      obtain ⟨y, rfl⟩ := trod_op h2
      exact ⟨y, fun j hj => hcell j hj⟩
    obtain ⟨I, hI⟩ : ∃ I : Nat → OpA, ∀ i, i < len → ∀ j, j < 12 → W.cell? ((b.add (i * 12)).add j) = (opC (I i))[j]? :=
      ⟨fun i => if h : i < len then Classical.choose (each i h) else default, fun i h => by have := Classical.choose_spec (each i h); simpa [h] using this⟩
    obtain ⟨g, o, spt⟩ := b
    refine ⟨(List.range len).map I, ⟨some ⟨g, o, spt⟩, cap, by simp, fun h0 => ?_⟩, by simp, Nat.le_trans hl hcm⟩
    have h0 : 0 < len := by simpa using h0
    have hsp : spt = none := by
      have h9 : W.cell? _ = some (.int .i64 (I 0).kind) := hI 0 h0 0 (by omega)
      have := World.cell?_spot h9
      simpa [Addr.add] using this
    subst hsp
    have h9 : W.cell? _ = some (.int .i64 (I 0).kind) := hI 0 h0 0 (by omega)
    refine ⟨g, o, rfl, World.block_lt_of_cell? W _ h9, fun j m hj hm => ?_⟩
    have hjl : j < len := by simpa using hj
    have h1 := hI j hjl m hm
    rw [addr_addQ, addr_addQ] at h1
    rw [List.getElem_map, List.getElem_range]
    exact h1
theorem neq_v5g (a c : V5) (W : World) : (binOp .neq 26 (.agg #[.int .i64 a.k, .int .i64 a.p, .int .i64 a.q, .string a.s, .int .i64 a.r]) (.agg #[.int .i64 c.k, .int .i64 c.p, .int .i64 c.q, .string c.s, .int .i64 c.r])).run Try.prog W = .ok (.bool (!decide (a = c))) W := by
  rw [neq_val]
  have : eqV a.k a.p a.q a.s a.r c.k c.p c.q c.s c.r = decide (a = c) := by
    unfold eqV
    rw [Bool.eq_iff_iff]
    cases a; cases c; simp
  rw [this]
theorem neq_v5 (a : V5) (W : World) : (binOp .neq 26 (.agg #[.int .i64 a.k, .int .i64 a.p, .int .i64 a.q, .string a.s, .int .i64 a.r]) (.agg #[.int .i64 a.k, .int .i64 a.p, .int .i64 a.q, .string a.s, .int .i64 a.r])).run Try.prog W = .ok (.bool false) W := by
  rw [neq_v5g]; simp
theorem large13 (p : Option Addr) (n cap : Nat) (w : World) : Calls Try.prog 9 #[.slice p n cap] w fun e w' => e = .returned (.bool (decide ((200 : Int) < (n : Int)))) ∧ w = w' := by
  go_enter Try.func9, Try.ntmps9
  go_wp2
  go_ret
  exact ⟨rfl, rfl⟩
theorem info_op13 : (Try.prog.info? 34).map (fun i => (i.zero, i.size, i.bytes)) = some (some (.agg #[.int .i64 0, .int .i64 0, .int .i64 0, .int .i64 0, .int .i64 0, .string ⟨#[]⟩, .int .i64 0, .int .i64 0, .int .i64 0, .int .i64 0, .string ⟨#[]⟩, .int .i64 0]), 12, 112) := by kernel_rfl
end Go.Proofs.Ytaaelhhiceildaa
