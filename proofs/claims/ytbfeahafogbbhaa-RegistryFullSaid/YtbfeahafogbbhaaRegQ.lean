/- Layer 18: the names of a registry; Find. -/
import Derived.Test.YtbfeahafogbbhaaRegP
import Derived.Test.YtbfeahafogbbhaaRegE
namespace Go.Proofs.Ytbfeahafogbbhaa
open Go.RowKit Go.Joins M1
set_option linter.unusedVariables false
/-- What the field names holds. -/
structure Nm (B : Nat) (vm : Value) (N : MP) (w : World) : Prop where
  mp : (vm = .map none ∧ N = []) ∨ ∃ g, vm = .map (some g) ∧ B ≤ g ∧ Mp g N w
  uq : Uniq N
  top : N.length ≤ 1000
def nmS (vm : Value) : List Nat := match vm with
  | .map (some g) => [g]
  | _ => []
theorem Nm.ch {B : Nat} {vm : Value} {N : MP} {w w' : World} {S : List Nat} (h : Nm B vm N w) (hc : Ch S w w') (hS : ∀ g ∈ nmS vm, g ∉ S) : Nm B vm N w' := by
  refine ⟨?_, h.uq, h.top⟩
  rcases h.mp with h1 | ⟨g, rfl, h2, h3⟩
  · exact .inl h1
  · exact .inr ⟨g, rfl, h2, h3.ch hc (hS g (by simp [nmS]))⟩
theorem Nm.nil (B : Nat) (w : World) : Nm B (.map none) [] w := ⟨.inl ⟨rfl, rfl⟩, trivial, by decide⟩
/-- A map's block is no block of cells. -/
theorem Nm.apart {B g0 : Nat} {vm : Value} {N : MP} {w : World} (h : Nm B vm N w) {cs : Array Value} {T : TypeId} (hb : Blk T g0 cs w) : ∀ g ∈ nmS vm, g ≠ g0 := by
  intro g hg e
  subst e
  rcases h.mp with ⟨rfl, _⟩ | ⟨g', rfl, _, es, c, h3, _⟩
  · simp [nmS] at hg
  · simp [nmS] at hg
    subst hg
    have h4 := hb
    unfold Blk at h4
    rw [h4] at h3
    cases h3
theorem Nm.look {B : Nat} {vm : Value} {N : MP} {w : World} (h : Nm B vm N w) (k : ByteArray) (W : World) (hc : Ch [] w W) :
    (Instr.lookup 64 vm (.string k) true).run Try.prog W = .ok (.tuple #[((look N k).getD v5z).a, .bool (look N k).isSome]) W := by
  rcases h.mp with ⟨rfl, rfl⟩ | ⟨g, rfl, h2, h3⟩
  · rw [look_nil]; rfl
  · exact (look_run (h3.ch hc (by simp)) k).1
set_option maxRecDepth 20000 in
theorem gfind_any (B t : Nat) (vk vf vm : Value) (K : List V5) (F : List Int) (N : MP) (w : World) (h : Rg B t vk vf vm K F w) (hn : Nm B vm N w) (nm : ByteArray) :
    Calls Try.prog 24 #[.pointer (some ⟨t, 0, none⟩), .string nm] w fun e w' => e = .returned (.tuple #[((look N nm).getD v5z).a, .bool (look N nm).isSome]) ∧ Ch [] w w' := by
  have HLK := Lib.hid fun W hc => hn.look nm W hc
  have HBK := Lib.hid h.blk
  obtain ⟨x, hx⟩ : ∃ x, x = (look N nm).getD v5z := ⟨_, rfl⟩
  rw [← hx] at HLK ⊢
  have HLK : Hid (∀ W, Ch [] w W → (Instr.lookup 64 vm (.string nm) true).run Try.prog W = .ok (.tuple #[.agg #[.int .i64 x.k, .int .i64 x.p, .int .i64 x.q, .string x.s, .int .i64 x.r], .bool (look N nm).isSome]) W) := HLK
  clear hx h hn
  generalize (look N nm).isSome = b at *
  go_enter Try.func24, Try.ntmps24
  go_upto_region 1 with fail
  have HC0 : Hid (Ch [] w (w.alloc (.cells #[.int .i64 0, .int .i64 0, .int .i64 0, .string ⟨#[]⟩, .int .i64 0] 33))) := Lib.hid ((Ch.refl [] w).alloc _)
  have HX0 : Hid (Blk 33 w.heap.size #[.int .i64 0, .int .i64 0, .int .i64 0, .string ⟨#[]⟩, .int .i64 0] (w.alloc (.cells #[.int .i64 0, .int .i64 0, .int .i64 0, .string ⟨#[]⟩, .int .i64 0] 33))) := Lib.hid (Blk.new w _ _ _ rfl)
  have HN : Hid (t ≠ w.heap.size) := Lib.hid (by have := HBK.out.lt; omega)
  obtain ⟨b0, hb0⟩ : ∃ b0, b0 = w.heap.size := ⟨_, rfl⟩
  have HB0 := Lib.hid hb0
  rw [← hb0] at HX0 HN ⊢
  clear hb0
  generalize (w.alloc (.cells #[.int .i64 0, .int .i64 0, .int .i64 0, .string ⟨#[]⟩, .int .i64 0] 33)) = w0 at *
  have HB1 := Lib.hid (HBK.out.ch HC0.out (not_nil _))
  have c2 : w0.cell? ⟨t, 2, none⟩ = some vm := HB1.out.cell 2
  have ct := HB1.out.lt
  have l0 := HLK.out w0 HC0.out
  have x0 : w0.cell? ⟨b0, 0, none⟩ = some (.int .i64 0) := HX0.out.cell 0
  have x1 : w0.cell? ⟨b0, 1, none⟩ = some (.int .i64 0) := HX0.out.cell 1
  have x2 : w0.cell? ⟨b0, 2, none⟩ = some (.int .i64 0) := HX0.out.cell 2
  have x3 : w0.cell? ⟨b0, 3, none⟩ = some (.string ⟨#[]⟩) := HX0.out.cell 3
  have x4 : w0.cell? ⟨b0, 4, none⟩ = some (.int .i64 0) := HX0.out.cell 4
  have f0 := HX0.out.fz 0
  have f1 := HX0.out.fz 1
  have f2 := HX0.out.fz 2
  have f3 := HX0.out.fz 3
  have f4 := HX0.out.fz 4
  have xl := HX0.out.lt
  go_upto_region 3 with fail
  go_wp2
  show bodyPost _ _ _ Exit.ret _ ((st5 w0 b0 (.int .i64 x.k) (.int .i64 x.p) (.int .i64 x.q) (.string x.s) (.int .i64 x.r)).alloc (.cells #[.int .i64 x.k, .int .i64 x.p, .int .i64 x.q, .string x.s, .int .i64 x.r] 33))
  have hJ := (st5_blk (a0 := .int .i64 x.k) (a1 := .int .i64 x.p) (a2 := .int .i64 x.q) (a3 := .string x.s) (a4 := .int .i64 x.r) HX0.out).ch ((Ch.refl [] _).alloc (.cells #[.int .i64 x.k, .int .i64 x.p, .int .i64 x.q, .string x.s, .int .i64 x.r] 33)) (not_nil _)
  have hE : Ch [] w ((st5 w0 b0 (.int .i64 x.k) (.int .i64 x.p) (.int .i64 x.q) (.string x.s) (.int .i64 x.r)).alloc (.cells #[.int .i64 x.k, .int .i64 x.p, .int .i64 x.q, .string x.s, .int .i64 x.r] 33)) := (st5_ch (a0 := .int .i64 x.k) (a1 := .int .i64 x.p) (a2 := .int .i64 x.q) (a3 := .string x.s) (a4 := .int .i64 x.r) HC0.out (.inr (by have := HB0.out; omega))).alloc _
  have d0 := hJ.cell 0
  have d1 := hJ.cell 1
  have d2 := hJ.cell 2
  have d3 := hJ.cell 3
  have d4 := hJ.cell 4
  simp at d0 d1 d2 d3 d4
  generalize ((st5 w0 b0 (.int .i64 x.k) (.int .i64 x.p) (.int .i64 x.q) (.string x.s) (.int .i64 x.r)).alloc (.cells #[.int .i64 x.k, .int .i64 x.p, .int .i64 x.q, .string x.s, .int .i64 x.r] 33)) = W9 at *
  refine bodyPost_ret (v := .tuple #[.agg #[.int .i64 x.k, .int .i64 x.p, .int .i64 x.q, .string x.s, .int .i64 x.r], .bool b]) (by simp [results, Try.results24, go_sem, d0, d1, d2, d3, d4]) rfl ⟨rfl, hE⟩
end Go.Proofs.Ytbfeahafogbbhaa
