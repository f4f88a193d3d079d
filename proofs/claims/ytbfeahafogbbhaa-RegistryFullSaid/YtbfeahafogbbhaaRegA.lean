/- Layer 18: a registry in memory. -/
import Derived.Test.YtbfeahafogbbhaaRegM
import Derived.Laws.AppendOwnNone
namespace Go.Proofs.Ytbfeahafogbbhaa
open Go.RowKit Go.Joins M1
set_option linter.unusedVariables false
def iC (F : List Int) : List Value := F.map (fun i => .int .i64 i)
theorem iC_len (F : List Int) : (iC F).length = F.length := by simp [iC]
theorem info_int : (Try.prog.info? 3).map (fun i => (i.zero, i.size, i.bytes)) = some (some (.int .i64 0), 1, 8) := by kernel_rfl
/-- A registry: the values of its references, the released ones, and what its names are. -/
structure Rg (B t : Nat) (vk vf vm : Value) (K : List V5) (F : List Int) (w : World) : Prop where
  blk : Blk 66 t #[vk, vf, vm] w
  lo : B ≤ t
  rk : w.ownsRow B 33 5 vk K.length (K.flatMap vC)
  rf : w.ownsRow B 3 1 vf F.length (iC F)
def rgS (t : Nat) (vk vf : Value) : List Nat := t :: (ob vk ++ ob vf)
theorem Rg.apk {B t : Nat} {vk vf vm : Value} {K : List V5} {F : List Int} {w : World} (h : Rg B t vk vf vm K F w) : ∀ g ∈ ob vk, g ≠ t := ob_blk h.rk h.blk (by decide)
theorem Rg.apf {B t : Nat} {vk vf vm : Value} {K : List V5} {F : List Int} {w : World} (h : Rg B t vk vf vm K F w) : ∀ g ∈ ob vf, g ≠ t := ob_blk h.rf h.blk (by decide)
theorem Rg.akf {B t : Nat} {vk vf vm : Value} {K : List V5} {F : List Int} {w : World} (h : Rg B t vk vf vm K F w) : ∀ g ∈ ob vk, g ∉ ob vf := ob_ob h.rk h.rf (by decide)
theorem Rg.ch {B t : Nat} {vk vf vm : Value} {K : List V5} {F : List Int} {w w' : World} {S : List Nat} (h : Rg B t vk vf vm K F w) (hc : Ch S w w') (hS : ∀ g ∈ rgS t vk vf, g ∉ S) : Rg B t vk vf vm K F w' :=
  ⟨h.blk.ch hc (hS t (by simp [rgS])), h.lo, hc.ownB h.rk (fun g hg => hS g (by simp [rgS, hg])), hc.ownB h.rf (fun g hg => hS g (by simp [rgS, hg]))⟩
theorem Rg.ch0 {B t : Nat} {vk vf vm : Value} {K : List V5} {F : List Int} {w w' : World} (h : Rg B t vk vf vm K F w) (hc : Ch [] w w') : Rg B t vk vf vm K F w' := h.ch hc (fun g _ => not_nil g)
theorem Rg.lt {B t : Nat} {vk vf vm : Value} {K : List V5} {F : List Int} {w : World} (h : Rg B t vk vf vm K F w) : ∀ g ∈ rgS t vk vf, B ≤ g ∧ g < w.heap.size := by
  intro g hg
  simp only [rgS, List.mem_cons, List.mem_append] at hg
  rcases hg with rfl | hg | hg
  · exact ⟨h.lo, h.blk.lt⟩
  · exact own_lo h.rk hg
  · exact own_lo h.rf hg
def RgSaid (B t : Nat) (vk vf vm : Value) (K : List V5) (F : List Int) (w w' : World) : Prop := (∃ vk' vf', Rg B t vk' vf' vm K F w' ∧ ∀ g ∈ rgS t vk' vf', g ∈ rgS t vk vf ∨ w.heap.size ≤ g) ∧ Ch (rgS t vk vf) w w'
theorem rg_0 {B t : Nat} {vk vf vm : Value} {K : List V5} {F : List Int} {w w' : World} (h : Rg B t vk vf vm K F w) (hc : Ch [] w w') : RgSaid B t vk vf vm K F w w' :=
  ⟨⟨vk, vf, h.ch0 hc, fun g hg => .inl hg⟩, hc.mono (fun g hg => absurd hg (not_nil g))⟩
theorem RgSaid.trans {B t : Nat} {vk vf vm vm2 : Value} {K1 K2 : List V5} {F1 F2 : List Int} {w w1 w2 : World} (h : RgSaid B t vk vf vm K1 F1 w w1) (k : ∀ vk' vf', Rg B t vk' vf' vm K1 F1 w1 → RgSaid B t vk' vf' vm2 K2 F2 w1 w2) : RgSaid B t vk vf vm2 K2 F2 w w2 := by
  obtain ⟨⟨vk', vf', h1, h2⟩, h3⟩ := h
  obtain ⟨⟨vk2, vf2, k1, k2⟩, k3⟩ := k vk' vf' h1
  refine ⟨⟨vk2, vf2, k1, fun g hg => ?_⟩, ⟨k3.os.trans h3.os, k3.tape.trans h3.tape, k3.output.trans h3.output, Nat.le_trans h3.size k3.size, fun g q1 q2 => (k3.block g (Nat.lt_of_lt_of_le q1 h3.size) (fun e => ?_)).trans (h3.block g q1 q2)⟩⟩
  · rcases k2 g hg with q | q
    · exact h2 g q
    · right; have := h3.size; omega
  · rcases h2 g e with q | q
    · exact q2 q
    · omega
theorem RgSaid.after {B t : Nat} {vk vf vm : Value} {K : List V5} {F : List Int} {w w1 w2 : World} (h : RgSaid B t vk vf vm K F w w1) (hc : Ch [] w1 w2) : RgSaid B t vk vf vm K F w w2 := h.trans fun vk' vf' k => rg_0 k hc
theorem RgSaid.before {B t : Nat} {vk vf vm : Value} {K : List V5} {F : List Int} {w w1 w2 : World} (hc : Ch [] w w1) (h : RgSaid B t vk vf vm K F w1 w2) : RgSaid B t vk vf vm K F w w2 := by
  obtain ⟨⟨vk', vf', h1, h2⟩, h3⟩ := h
  refine ⟨⟨vk', vf', h1, fun g hg => ?_⟩, (hc.mono (fun g hg => absurd hg (not_nil g))).trans h3⟩
  rcases h2 g hg with q | q
  · exact .inl q
  · right; have := hc.size; omega
theorem form_row {w : World} {B n size : Nat} {e : TypeId} {v : Value} {xs : List Value} (h : w.ownsRow B e size v n xs) : (v = .slice none 0 0 ∧ n = 0) ∨ ∃ g cap, v = .slice (some ⟨g, 0, none⟩) n cap := Joins.ownsRow_forms h
theorem row_capg {w : World} {B g n cap size : Nat} {e : TypeId} {xs : List Value} (h : w.ownsRow B e size (.slice (some ⟨g, 0, none⟩) n cap) n xs) : n ≤ cap := by
  obtain ⟨h1, h2⟩ := h
  rcases h2 with ⟨e1, _⟩ | ⟨g', cap', cur, e1, q1, q2, q3, q4, q5, q6⟩
  · injection e1 with e1; cases e1
  injection e1 with e1 e2 e3
  subst e3
  exact q3
theorem gnew_any (B : Nat) (w : World) (hB : B ≤ w.heap.size) :
    Calls Try.prog 12 #[] w fun e w' => e = .returned (.pointer (some ⟨w.heap.size, 0, none⟩)) ∧ Rg B w.heap.size (.slice none 0 0) (.slice none 0 0) (.map none) [] [] w' ∧ Below w.heap.size w w' := by
  go_enter Try.func12, Try.ntmps12
  go_wp2
  go_ret
  exact ⟨rfl, ⟨Blk.new _ _ _ _ rfl, hB, World.ownsRow_nil _ _ _ _, World.ownsRow_nil _ _ _ _⟩, (Below.refl _ w).alloc (Nat.le_refl _) _⟩
theorem inuse_any (B t : Nat) (vk vf vm : Value) (K : List V5) (F : List Int) (w : World) (h : Rg B t vk vf vm K F w) (hg0 : Gd K F) :
    Calls Try.prog 36 #[.pointer (some ⟨t, 0, none⟩)] w fun e w' => e = .returned (.int .i64 ((K.length : Int) - (F.length : Int))) ∧ Ch [] w w' := by
  obtain ⟨p, cap, rfl⟩ := ownB_form h.rk
  obtain ⟨q, cbp, rfl⟩ := ownB_form h.rf
  have c0 : w.cell? ⟨t, 0, none⟩ = some (.slice p K.length cap) := h.blk.cell 0
  have c1 : w.cell? ⟨t, 1, none⟩ = some (.slice q F.length cbp) := h.blk.cell 1
  have hb := h.blk.lt
  have h1 := hg0.top
  have h2 := hg0.len
  clear h
  go_enter Try.func36, Try.ntmps36
  go_upto_region 1 with fail
  go_region
  go_wp2
  go_ret
  exact ⟨rfl, (Ch.refl [] w).drew⟩
def valG (K : List V5) (r : Int) : V5 := if heldB K r = true then K.getD (r.toNat - 1) v5z else v5z
def valE (K : List V5) (r : Int) : Int := if r = 0 then 0 else if heldB K r = true then 0 else 6
theorem gval_nil (r : Int) (w : World) : Calls Try.prog 20 #[.pointer none, .int .i64 r] w fun e w' => e = .returned (.tuple #[.agg #[.int .i64 0, .int .i64 0, .int .i64 0, .string ⟨#[]⟩, .int .i64 0], .int .i64 1]) ∧ Below w.heap.size w w' := by
  go_enter Try.func20, Try.ntmps20
  go_wp2
  refine bodyPost_ret (v := .tuple #[.agg #[.int .i64 0, .int .i64 0, .int .i64 0, .string ⟨#[]⟩, .int .i64 0], .int .i64 1]) (by simp [results, Try.results20, go_sem]) rfl ⟨rfl, ?_⟩
  exact (Below.refl _ w).alloc (Nat.le_refl _) _
theorem gval_zero (B t : Nat) (vk vf vm : Value) (K : List V5) (F : List Int) (w : World) (h : Rg B t vk vf vm K F w) (hg0 : Gd K F) :
    Calls Try.prog 20 #[.pointer (some ⟨t, 0, none⟩), .int .i64 0] w fun e w' => e = .returned (.tuple #[.agg #[.int .i64 0, .int .i64 0, .int .i64 0, .string ⟨#[]⟩, .int .i64 0], .int .i64 0]) ∧ Below w.heap.size w w' := by
  clear h
  go_enter Try.func20, Try.ntmps20
  go_wp2
  refine bodyPost_ret (v := .tuple #[.agg #[.int .i64 0, .int .i64 0, .int .i64 0, .string ⟨#[]⟩, .int .i64 0], .int .i64 0]) (by simp [results, Try.results20, go_sem]) rfl ⟨rfl, ?_⟩
  exact (Below.refl _ w).alloc (Nat.le_refl _) _
set_option maxHeartbeats 1000000 in
theorem gval_lo (B t : Nat) (vk vf vm : Value) (K : List V5) (F : List Int) (w : World) (h : Rg B t vk vf vm K F w) (hg0 : Gd K F) (r : Int) (hr : r < 0) :
    Calls Try.prog 20 #[.pointer (some ⟨t, 0, none⟩), .int .i64 r] w fun e w' => e = .returned (.tuple #[.agg #[.int .i64 0, .int .i64 0, .int .i64 0, .string ⟨#[]⟩, .int .i64 0], .int .i64 6]) ∧ Below w.heap.size w w' := by
  have h0 := h.ch0 ((Ch.refl [] w).alloc (.cells #[.int .i64 0, .int .i64 0, .int .i64 0, .string ⟨#[]⟩, .int .i64 0] 33))
  have hK := hg0.top
  have hr0 : ¬ r = 0 := by omega
  clear h h0
  go_enter Try.func20, Try.ntmps20
  go_wp2
  refine bodyPost_ret (v := .tuple #[.agg #[.int .i64 0, .int .i64 0, .int .i64 0, .string ⟨#[]⟩, .int .i64 0], .int .i64 6]) (by simp [results, Try.results20, go_sem]) rfl ⟨rfl, ?_⟩
  exact (Below.refl _ w).alloc (Nat.le_refl _) _
set_option maxHeartbeats 1000000 in
theorem gval_hi (B t : Nat) (vk vf vm : Value) (K : List V5) (F : List Int) (w : World) (h : Rg B t vk vf vm K F w) (hg0 : Gd K F) (r : Int) (hr : (K.length : Int) < r) (hr1 : ¬ r < 0) (hr0 : ¬ r = 0) :
    Calls Try.prog 20 #[.pointer (some ⟨t, 0, none⟩), .int .i64 r] w fun e w' => e = .returned (.tuple #[.agg #[.int .i64 0, .int .i64 0, .int .i64 0, .string ⟨#[]⟩, .int .i64 0], .int .i64 6]) ∧ Below w.heap.size w w' := by
  have h0 := h.ch0 ((Ch.refl [] w).alloc (.cells #[.int .i64 0, .int .i64 0, .int .i64 0, .string ⟨#[]⟩, .int .i64 0] 33))
  have hK := hg0.top
  obtain ⟨p, cap, rfl⟩ := ownB_form h.rk
  have c0 : (w.alloc (.cells #[.int .i64 0, .int .i64 0, .int .i64 0, .string ⟨#[]⟩, .int .i64 0] 33)).cell? ⟨t, 0, none⟩ = some (.slice p K.length cap) := h0.blk.cell 0
  have hb := h0.blk.lt
  clear h h0
  go_enter Try.func20, Try.ntmps20
  go_wp2
  refine bodyPost_ret (v := .tuple #[.agg #[.int .i64 0, .int .i64 0, .int .i64 0, .string ⟨#[]⟩, .int .i64 0], .int .i64 6]) (by simp [results, Try.results20, go_sem]) rfl ⟨rfl, ?_⟩
  exact (Below.refl _ w).alloc (Nat.le_refl _) _
set_option maxHeartbeats 1000000 in
theorem gval_gone (B t : Nat) (vk vf vm : Value) (K : List V5) (F : List Int) (w : World) (h : Rg B t vk vf vm K F w) (hg0 : Gd K F) (r : Int) (i : Nat) (hi : i < K.length) (hr : r = (i : Int) + 1) (x : V5) (hx : K[i] = x) (hz : x.k = 0) :
    Calls Try.prog 20 #[.pointer (some ⟨t, 0, none⟩), .int .i64 r] w fun e w' => e = .returned (.tuple #[.agg #[.int .i64 0, .int .i64 0, .int .i64 0, .string ⟨#[]⟩, .int .i64 0], .int .i64 6]) ∧ Below w.heap.size w w' := by
  have h0 := h.ch0 ((Ch.refl [] w).alloc (.cells #[.int .i64 0, .int .i64 0, .int .i64 0, .string ⟨#[]⟩, .int .i64 0] 33))
  have hK := hg0.top
  obtain ⟨g, cap, rfl⟩ : ∃ g cap, vk = .slice (some ⟨g, 0, none⟩) K.length cap := by
    rcases form_row h.rk with ⟨_, h2⟩ | h2
    · omega
    · exact h2
  have c0 : (w.alloc (.cells #[.int .i64 0, .int .i64 0, .int .i64 0, .string ⟨#[]⟩, .int .i64 0] 33)).cell? ⟨t, 0, none⟩ = some (.slice (some ⟨g, 0, none⟩) K.length cap) := h0.blk.cell 0
  have hb := h0.blk.lt
  have hg := (h0.lt g (by simp [rgS, Go.Proofs.Ytbfeahafogbbhaa.ob, Value.ownBlock])).2
  have hv : ∀ q, q < 5 → (w.alloc (.cells #[.int .i64 0, .int .i64 0, .int .i64 0, .string ⟨#[]⟩, .int .i64 0] 33)).cell? ⟨g, i * 5 + q, none⟩ = (vC x)[q]? := fun q hq => by
    rw [h0.rk.cellAt (i * 5 + q) (by omega), flat_at vC 5 vC_len _ i q hi hq, hx]
  have d0 : (w.alloc (.cells #[.int .i64 0, .int .i64 0, .int .i64 0, .string ⟨#[]⟩, .int .i64 0] 33)).cell? ⟨g, i * 5, none⟩ = some (.int .i64 x.k) := hv 0 (by omega)
  have d1 : (w.alloc (.cells #[.int .i64 0, .int .i64 0, .int .i64 0, .string ⟨#[]⟩, .int .i64 0] 33)).cell? ⟨g, i * 5 + 1, none⟩ = some (.int .i64 x.p) := hv 1 (by omega)
  have d2 : (w.alloc (.cells #[.int .i64 0, .int .i64 0, .int .i64 0, .string ⟨#[]⟩, .int .i64 0] 33)).cell? ⟨g, i * 5 + 2, none⟩ = some (.int .i64 x.q) := hv 2 (by omega)
  have d3 : (w.alloc (.cells #[.int .i64 0, .int .i64 0, .int .i64 0, .string ⟨#[]⟩, .int .i64 0] 33)).cell? ⟨g, i * 5 + 3, none⟩ = some (.string x.s) := hv 3 (by omega)
  have d4 : (w.alloc (.cells #[.int .i64 0, .int .i64 0, .int .i64 0, .string ⟨#[]⟩, .int .i64 0] 33)).cell? ⟨g, i * 5 + 4, none⟩ = some (.int .i64 x.r) := hv 4 (by omega)
  have r0 : ¬ r = 0 := by omega
  have r1 : ¬ r < 0 := by omega
  have r2 : ¬ (K.length : Int) < r := by omega
  have r3 : IntKind.i64.wrap (r - 1) = (i : Int) := by rw [show r - 1 = (i : Int) by omega]; exact IntWalk.i64_in _ (by omega)
  have hi1 : (i : Int) < (K.length : Int) := by omega
  have hi0 : (0 : Int) ≤ (i : Int) := by omega
  clear hv hx hr
  clear h h0
  go_enter Try.func20, Try.ntmps20
  go_wp2
  refine bodyPost_ret (v := .tuple #[.agg #[.int .i64 0, .int .i64 0, .int .i64 0, .string ⟨#[]⟩, .int .i64 0], .int .i64 6]) (by simp [results, Try.results20, go_sem]) rfl ⟨rfl, ?_⟩
  exact (Below.refl _ w).alloc (Nat.le_refl _) _
set_option maxHeartbeats 1000000 in
theorem gval_held (B t : Nat) (vk vf vm : Value) (K : List V5) (F : List Int) (w : World) (h : Rg B t vk vf vm K F w) (hg0 : Gd K F) (r : Int) (i : Nat) (hi : i < K.length) (hr : r = (i : Int) + 1) (x : V5) (hx : K[i] = x) (hz : ¬ x.k = 0) :
    Calls Try.prog 20 #[.pointer (some ⟨t, 0, none⟩), .int .i64 r] w fun e w' => e = .returned (.tuple #[.agg #[.int .i64 x.k, .int .i64 x.p, .int .i64 x.q, .string x.s, .int .i64 x.r], .int .i64 0]) ∧ Below w.heap.size w w' := by
  have h0 := h.ch0 ((Ch.refl [] w).alloc (.cells #[.int .i64 0, .int .i64 0, .int .i64 0, .string ⟨#[]⟩, .int .i64 0] 33))
  have hK := hg0.top
  obtain ⟨g, cap, rfl⟩ : ∃ g cap, vk = .slice (some ⟨g, 0, none⟩) K.length cap := by
    rcases form_row h.rk with ⟨_, h2⟩ | h2
    · omega
    · exact h2
  have c0 : (w.alloc (.cells #[.int .i64 0, .int .i64 0, .int .i64 0, .string ⟨#[]⟩, .int .i64 0] 33)).cell? ⟨t, 0, none⟩ = some (.slice (some ⟨g, 0, none⟩) K.length cap) := h0.blk.cell 0
  have hb := h0.blk.lt
  have hg := (h0.lt g (by simp [rgS, Go.Proofs.Ytbfeahafogbbhaa.ob, Value.ownBlock])).2
  have hv : ∀ q, q < 5 → (w.alloc (.cells #[.int .i64 0, .int .i64 0, .int .i64 0, .string ⟨#[]⟩, .int .i64 0] 33)).cell? ⟨g, i * 5 + q, none⟩ = (vC x)[q]? := fun q hq => by
    rw [h0.rk.cellAt (i * 5 + q) (by omega), flat_at vC 5 vC_len _ i q hi hq, hx]
  have d0 : (w.alloc (.cells #[.int .i64 0, .int .i64 0, .int .i64 0, .string ⟨#[]⟩, .int .i64 0] 33)).cell? ⟨g, i * 5, none⟩ = some (.int .i64 x.k) := hv 0 (by omega)
  have d1 : (w.alloc (.cells #[.int .i64 0, .int .i64 0, .int .i64 0, .string ⟨#[]⟩, .int .i64 0] 33)).cell? ⟨g, i * 5 + 1, none⟩ = some (.int .i64 x.p) := hv 1 (by omega)
  have d2 : (w.alloc (.cells #[.int .i64 0, .int .i64 0, .int .i64 0, .string ⟨#[]⟩, .int .i64 0] 33)).cell? ⟨g, i * 5 + 2, none⟩ = some (.int .i64 x.q) := hv 2 (by omega)
  have d3 : (w.alloc (.cells #[.int .i64 0, .int .i64 0, .int .i64 0, .string ⟨#[]⟩, .int .i64 0] 33)).cell? ⟨g, i * 5 + 3, none⟩ = some (.string x.s) := hv 3 (by omega)
  have d4 : (w.alloc (.cells #[.int .i64 0, .int .i64 0, .int .i64 0, .string ⟨#[]⟩, .int .i64 0] 33)).cell? ⟨g, i * 5 + 4, none⟩ = some (.int .i64 x.r) := hv 4 (by omega)
  have r0 : ¬ r = 0 := by omega
  have r1 : ¬ r < 0 := by omega
  have r2 : ¬ (K.length : Int) < r := by omega
  have r3 : IntKind.i64.wrap (r - 1) = (i : Int) := by rw [show r - 1 = (i : Int) by omega]; exact IntWalk.i64_in _ (by omega)
  have hi1 : (i : Int) < (K.length : Int) := by omega
  have hi0 : (0 : Int) ≤ (i : Int) := by omega
  have hz2 : (x.k == 0) = false := by rw [beq_eq_false_iff_ne]; exact hz
  clear hv hx hr
  clear h h0
  go_enter Try.func20, Try.ntmps20
  go_wp2
  refine bodyPost_ret (v := .tuple #[.agg #[.int .i64 x.k, .int .i64 x.p, .int .i64 x.q, .string x.s, .int .i64 x.r], .int .i64 0]) (by simp [results, Try.results20, go_sem]) rfl ⟨rfl, ?_⟩
  exact (Below.refl _ w).alloc (Nat.le_refl _) _
theorem gval_all (B t : Nat) (vk vf vm : Value) (K : List V5) (F : List Int) (w : World) (h : Rg B t vk vf vm K F w) (hg0 : Gd K F) (r : Int) :
    Calls Try.prog 20 #[.pointer (some ⟨t, 0, none⟩), .int .i64 r] w fun e w' => e = .returned (.tuple #[.agg #[.int .i64 (valG K r).k, .int .i64 (valG K r).p, .int .i64 (valG K r).q, .string (valG K r).s, .int .i64 (valG K r).r], .int .i64 (valE K r)]) ∧ Below w.heap.size w w' := by
  unfold valG valE
  by_cases h0 : r = 0
  · subst h0
    have hh : heldB K 0 = false := by unfold heldB; simp
    rw [hh, if_pos rfl]
    exact gval_zero B t vk vf vm K F w h hg0
  · rw [if_neg h0]
    cases hh : heldB K r with
    | true =>
      obtain ⟨h1, h2, hi, h3⟩ := held_some hh
      simp only [if_true]
      exact gval_held B t vk vf vm K F w h hg0 r (r.toNat - 1) hi (by omega) _ (by simp [List.getD, hi]) (by simpa [List.getD, hi] using h3)
    | false =>
      simp only [Bool.false_eq_true, if_false]
      by_cases h1 : r < 0
      · exact gval_lo B t vk vf vm K F w h hg0 r h1
      · rcases held_none hh with h2 | h2 | ⟨hi, h2, h3, h4⟩
        · omega
        · exact gval_hi B t vk vf vm K F w h hg0 r h2 h1 h0
        · exact gval_gone B t vk vf vm K F w h hg0 r (r.toNat - 1) hi (by omega) _ rfl h4
end Go.Proofs.Ytbfeahafogbbhaa
