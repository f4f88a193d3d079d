/- Layer 18: Ref, Unref, Len. -/
import Derived.Test.YtbfeahafogbbhaaRegB
namespace Go.Proofs.Ytbfeahafogbbhaa
open Go.RowKit Go.Joins M1
set_option linter.unusedVariables false
def freeK (K : List V5) (F : List Int) : List V5 := match F.getLast? with
  | none => K ++ [v5z]
  | some _ => K
theorem free_all (B t : Nat) (vk vf vm : Value) (K : List V5) (F : List Int) (w : World) (h : Rg B t vk vf vm K F w) (hg0 : Gd K F) (hB : B ≤ w.heap.size) :
    Calls Try.prog 38 #[.pointer (some ⟨t, 0, none⟩)] w fun e w' => e = .returned (.int .i64 (refR K F)) ∧ RgSaid B t vk vf vm (freeK K F) F.dropLast w w' := by
  unfold refR freeK
  cases hl : F.getLast? with
  | none =>
    have hF : F = [] := by simpa using hl
    subst hF
    exact free_new B t vk vf vm K w h hg0.top hB
  | some r =>
    have hs := last_split hl
    have hlen := hg0.len
    have htop := hg0.top
    have := free_old B t vk vf vm K F.dropLast r w (by rw [← hs]; exact h) (by simp; omega)
    exact this
theorem ref_at {K : List V5} {F : List Int} (h : Gd K F) : ∃ i : Nat, refR K F = (i : Int) + 1 ∧ i < (freeK K F).length ∧ ∀ v, (freeK K F).set i v = refK K F v := by
  unfold refR freeK refK
  cases hl : F.getLast? with
  | none => exact ⟨K.length, rfl, by simp, fun v => by simp⟩
  | some r =>
    have := h.rel r (last_mem hl)
    exact ⟨r.toNat - 1, by simp only; omega, by simp only; omega, fun v => rfl⟩
/-- A value is stored among those that are kept. -/
theorem Rg.put {B t g cap : Nat} {vf vm : Value} {K : List V5} {F : List Int} {w : World} (h : Rg B t (.slice (some ⟨g, 0, none⟩) K.length cap) vf vm K F w) (j : Nat) (hj : j < K.length) (x : V5) :
    RgSaid B t (.slice (some ⟨g, 0, none⟩) K.length cap) vf vm (K.set j x) F w (stL w g (j * 5) (vC x)) := by
  have hc : Ch [g] w (stL w g (j * 5) (vC x)) := stL_ch (by simp) _ _ (Ch.refl _ _)
  have hr := h.rk
  rw [← map_flat] at hr
  have := row_store (n := 5) (vC x) (C := K.map vC) (fun c hc => by obtain ⟨y, _, rfl⟩ := List.mem_map.1 hc; rfl) j 0 (by simpa using hj) (by rw [vC_len]; omega) hr
  rw [List.getElem_map, show Go.Proofs.Ytbfeahafogbbhaa.patch (vC K[j]) 0 (vC x) = vC x from rfl, ← List.map_set, map_flat] at this
  have hgt : g ≠ t := h.apk g (mem_ob.2 rfl)
  have hgf : g ∉ ob vf := h.akf g (mem_ob.2 rfl)
  refine ⟨⟨_, vf, ⟨h.blk.ch hc (by simp; exact fun e => hgt e.symm), h.lo, by simpa using this, hc.ownB h.rf (fun y hy => by simp; intro e; subst e; exact hgf hy)⟩, fun y hy => .inl hy⟩, hc.mono (fun y hy => by simp at hy; subst hy; simp [rgS, Go.Proofs.Ytbfeahafogbbhaa.ob, Value.ownBlock])⟩
theorem ref_nil (x : V5) (w : World) : Calls Try.prog 18 #[.pointer none, .agg #[.int .i64 x.k, .int .i64 x.p, .int .i64 x.q, .string x.s, .int .i64 x.r]] w fun e w' => e = .returned (.tuple #[.int .i64 0, .int .i64 1]) ∧ Ch [] w w' := by
  go_enter Try.func18, Try.ntmps18
  go_wp2
  go_ret2
  exact ⟨rfl, (Ch.refl [] w).alloc _⟩
theorem rg_step {B t : Nat} {vk vf vk' vf' vm' : Value} {K' : List V5} {F' : List Int} {w W0 W1 W2 : World} (h2 : ∀ g ∈ rgS t vk' vf', g ∈ rgS t vk vf ∨ w.heap.size ≤ g) (h3 : Ch (rgS t vk vf) w W0) (hc : Ch [] W0 W1) (hs : RgSaid B t vk' vf' vm' K' F' W1 W2) : RgSaid B t vk vf vm' K' F' w W2 := by
  obtain ⟨⟨vk2, vf2, k1, k2⟩, k3⟩ := RgSaid.before hc hs
  refine ⟨⟨vk2, vf2, k1, fun g hg => ?_⟩, ⟨k3.os.trans h3.os, k3.tape.trans h3.tape, k3.output.trans h3.output, Nat.le_trans h3.size k3.size, fun g q1 q2 => (k3.block g (Nat.lt_of_lt_of_le q1 h3.size) (fun e => ?_)).trans (h3.block g q1 q2)⟩⟩
  · rcases k2 g hg with q | q
    · exact h2 g q
    · right; have := h3.size; omega
  · rcases h2 g e with q | q
    · exact q2 q
    · omega
set_option maxHeartbeats 2000000 in
theorem ref_bad (B t : Nat) (vk vf vm : Value) (K : List V5) (F : List Int) (w : World) (h : Rg B t vk vf vm K F w) (hg0 : Gd K F) (x : V5) (hB : B ≤ w.heap.size) (hx1 : okV x = false) :
    Calls Try.prog 18 #[.pointer (some ⟨t, 0, none⟩), .agg #[.int .i64 x.k, .int .i64 x.p, .int .i64 x.q, .string x.s, .int .i64 x.r]] w fun e w' => e = .returned (.tuple #[.int .i64 0, .int .i64 2]) ∧ RgSaid B t vk vf vm K F w w' := by
  have H := Lib.hid h
  have HG := Lib.hid hg0
  have HB : Hid (Blk 33 w.heap.size #[.int .i64 x.k, .int .i64 x.p, .int .i64 x.q, .string x.s, .int .i64 x.r] (w.alloc (.cells #[.int .i64 x.k, .int .i64 x.p, .int .i64 x.q, .string x.s, .int .i64 x.r] 33))) := Lib.hid (Blk.new w _ _ _ rfl)
  have HC : Hid (Ch [] w (w.alloc (.cells #[.int .i64 x.k, .int .i64 x.p, .int .i64 x.q, .string x.s, .int .i64 x.r] 33))) := Lib.hid ((Ch.refl [] w).alloc _)
  have QV : Hid (∀ W, Calls Try.prog 37 #[.agg #[.int .i64 x.k, .int .i64 x.p, .int .i64 x.q, .string x.s, .int .i64 x.r]] W fun e w' => e = .returned (.bool false) ∧ Below W.heap.size W w') := Lib.hid fun W => by rw [← (show okV x = false from hx1)]; exact valid5 x.k x.p x.q x.s x.r W
  clear h hg0 hx1
  go_enter Try.func18, Try.ntmps18
  go_upto_region 3 with fail
  generalize (w.alloc (.cells #[.int .i64 x.k, .int .i64 x.p, .int .i64 x.q, .string x.s, .int .i64 x.r] 33)) = w0 at *
  have u0 : w0.cell? ⟨w.heap.size, 0, none⟩ = some (.int .i64 x.k) := HB.out.cell 0
  have u1 : w0.cell? ⟨w.heap.size, 1, none⟩ = some (.int .i64 x.p) := HB.out.cell 1
  have u2 : w0.cell? ⟨w.heap.size, 2, none⟩ = some (.int .i64 x.q) := HB.out.cell 2
  have u3 : w0.cell? ⟨w.heap.size, 3, none⟩ = some (.string x.s) := HB.out.cell 3
  have u4 : w0.cell? ⟨w.heap.size, 4, none⟩ = some (.int .i64 x.r) := HB.out.cell 4
  have lu := HB.out.lt
  go_wp2_with (go_at_call 37; (with_reducible refine (QV.out _).mono ?_); rintro e w1 ⟨rfl, hb1⟩; have HC1 : Hid (Ch [] w w1) := Lib.hid (HC.out.trans (Ch.of_below hb1)); have HB1 := Lib.hid (HB.out.below hb1); have u1_0 : w1.cell? ⟨w.heap.size, 0, none⟩ = some (.int .i64 x.k) := HB1.out.cell 0; have u1_1 : w1.cell? ⟨w.heap.size, 1, none⟩ = some (.int .i64 x.p) := HB1.out.cell 1; have u1_2 : w1.cell? ⟨w.heap.size, 2, none⟩ = some (.int .i64 x.q) := HB1.out.cell 2; have u1_3 : w1.cell? ⟨w.heap.size, 3, none⟩ = some (.string x.s) := HB1.out.cell 3; have u1_4 : w1.cell? ⟨w.heap.size, 4, none⟩ = some (.int .i64 x.r) := HB1.out.cell 4; have lu1 := HB1.out.lt; clear hb1)
  go_ret2
  exact ⟨rfl, rg_0 H.out HC1.out⟩
set_option maxHeartbeats 2000000 in
theorem ref_zero (B t : Nat) (vk vf vm : Value) (K : List V5) (F : List Int) (w : World) (h : Rg B t vk vf vm K F w) (hg0 : Gd K F) (x : V5) (hB : B ≤ w.heap.size) (hx1 : okV x = true) (hk : x.k = 0) :
    Calls Try.prog 18 #[.pointer (some ⟨t, 0, none⟩), .agg #[.int .i64 x.k, .int .i64 x.p, .int .i64 x.q, .string x.s, .int .i64 x.r]] w fun e w' => e = .returned (.tuple #[.int .i64 0, .int .i64 0]) ∧ RgSaid B t vk vf vm K F w w' := by
  have H := Lib.hid h
  have HG := Lib.hid hg0
  have HB : Hid (Blk 33 w.heap.size #[.int .i64 x.k, .int .i64 x.p, .int .i64 x.q, .string x.s, .int .i64 x.r] (w.alloc (.cells #[.int .i64 x.k, .int .i64 x.p, .int .i64 x.q, .string x.s, .int .i64 x.r] 33))) := Lib.hid (Blk.new w _ _ _ rfl)
  have HC : Hid (Ch [] w (w.alloc (.cells #[.int .i64 x.k, .int .i64 x.p, .int .i64 x.q, .string x.s, .int .i64 x.r] 33))) := Lib.hid ((Ch.refl [] w).alloc _)
  have QV : Hid (∀ W, Calls Try.prog 37 #[.agg #[.int .i64 x.k, .int .i64 x.p, .int .i64 x.q, .string x.s, .int .i64 x.r]] W fun e w' => e = .returned (.bool true) ∧ Below W.heap.size W w') := Lib.hid fun W => by rw [← (show okV x = true from hx1)]; exact valid5 x.k x.p x.q x.s x.r W
  have HKZ := Lib.hid hk
  clear h hg0 hx1 hk
  go_enter Try.func18, Try.ntmps18
  go_upto_region 3 with fail
  generalize (w.alloc (.cells #[.int .i64 x.k, .int .i64 x.p, .int .i64 x.q, .string x.s, .int .i64 x.r] 33)) = w0 at *
  have u0 : w0.cell? ⟨w.heap.size, 0, none⟩ = some (.int .i64 x.k) := HB.out.cell 0
  have u1 : w0.cell? ⟨w.heap.size, 1, none⟩ = some (.int .i64 x.p) := HB.out.cell 1
  have u2 : w0.cell? ⟨w.heap.size, 2, none⟩ = some (.int .i64 x.q) := HB.out.cell 2
  have u3 : w0.cell? ⟨w.heap.size, 3, none⟩ = some (.string x.s) := HB.out.cell 3
  have u4 : w0.cell? ⟨w.heap.size, 4, none⟩ = some (.int .i64 x.r) := HB.out.cell 4
  have lu := HB.out.lt
  go_upto_region 5 with (go_at_call 37; (with_reducible refine (QV.out _).mono ?_); rintro e w1 ⟨rfl, hb1⟩; have HC1 : Hid (Ch [] w w1) := Lib.hid (HC.out.trans (Ch.of_below hb1)); have HB1 := Lib.hid (HB.out.below hb1); have u1_0 : w1.cell? ⟨w.heap.size, 0, none⟩ = some (.int .i64 x.k) := HB1.out.cell 0; have u1_1 : w1.cell? ⟨w.heap.size, 1, none⟩ = some (.int .i64 x.p) := HB1.out.cell 1; have u1_2 : w1.cell? ⟨w.heap.size, 2, none⟩ = some (.int .i64 x.q) := HB1.out.cell 2; have u1_3 : w1.cell? ⟨w.heap.size, 3, none⟩ = some (.string x.s) := HB1.out.cell 3; have u1_4 : w1.cell? ⟨w.heap.size, 4, none⟩ = some (.int .i64 x.r) := HB1.out.cell 4; have lu1 := HB1.out.lt; clear hb1)
  rw [HKZ.out] at u1_0
  go_wp2
  go_ret2
  exact ⟨rfl, rg_0 H.out HC1.out⟩
set_option maxHeartbeats 2000000 in
theorem ref_full (B t : Nat) (vk vf vm : Value) (K : List V5) (F : List Int) (w : World) (h : Rg B t vk vf vm K F w) (hg0 : Gd K F) (x : V5) (hB : B ≤ w.heap.size) (hx1 : okV x = true) (hk : ¬ x.k = 0) (hu : (K.length : Int) - (F.length : Int) = 1000) :
    Calls Try.prog 18 #[.pointer (some ⟨t, 0, none⟩), .agg #[.int .i64 x.k, .int .i64 x.p, .int .i64 x.q, .string x.s, .int .i64 x.r]] w fun e w' => e = .returned (.tuple #[.int .i64 0, .int .i64 17]) ∧ RgSaid B t vk vf vm K F w w' := by
  have H := Lib.hid h
  have HG := Lib.hid hg0
  have HB : Hid (Blk 33 w.heap.size #[.int .i64 x.k, .int .i64 x.p, .int .i64 x.q, .string x.s, .int .i64 x.r] (w.alloc (.cells #[.int .i64 x.k, .int .i64 x.p, .int .i64 x.q, .string x.s, .int .i64 x.r] 33))) := Lib.hid (Blk.new w _ _ _ rfl)
  have HC : Hid (Ch [] w (w.alloc (.cells #[.int .i64 x.k, .int .i64 x.p, .int .i64 x.q, .string x.s, .int .i64 x.r] 33))) := Lib.hid ((Ch.refl [] w).alloc _)
  have QV : Hid (∀ W, Calls Try.prog 37 #[.agg #[.int .i64 x.k, .int .i64 x.p, .int .i64 x.q, .string x.s, .int .i64 x.r]] W fun e w' => e = .returned (.bool true) ∧ Below W.heap.size W w') := Lib.hid fun W => by rw [← (show okV x = true from hx1)]; exact valid5 x.k x.p x.q x.s x.r W
  have QI : Hid (∀ W, Ch [] w W → Calls Try.prog 36 #[.pointer (some ⟨t, 0, none⟩)] W fun e w' => e = .returned (.int .i64 ((K.length : Int) - (F.length : Int))) ∧ Ch [] W w') := Lib.hid fun W hW => inuse_any B t vk vf vm K F W (h.ch0 hW) hg0
  have hk2 : (x.k == 0) = false := by rw [beq_eq_false_iff_ne]; exact hk
  rw [hu] at QI
  clear h hg0 hx1
  go_enter Try.func18, Try.ntmps18
  go_upto_region 3 with fail
  generalize (w.alloc (.cells #[.int .i64 x.k, .int .i64 x.p, .int .i64 x.q, .string x.s, .int .i64 x.r] 33)) = w0 at *
  have u0 : w0.cell? ⟨w.heap.size, 0, none⟩ = some (.int .i64 x.k) := HB.out.cell 0
  have u1 : w0.cell? ⟨w.heap.size, 1, none⟩ = some (.int .i64 x.p) := HB.out.cell 1
  have u2 : w0.cell? ⟨w.heap.size, 2, none⟩ = some (.int .i64 x.q) := HB.out.cell 2
  have u3 : w0.cell? ⟨w.heap.size, 3, none⟩ = some (.string x.s) := HB.out.cell 3
  have u4 : w0.cell? ⟨w.heap.size, 4, none⟩ = some (.int .i64 x.r) := HB.out.cell 4
  have lu := HB.out.lt
  go_wp2_with (first | (go_at_call 37; (with_reducible refine (QV.out _).mono ?_); rintro e w1 ⟨rfl, hb1⟩; have HC1 : Hid (Ch [] w w1) := Lib.hid (HC.out.trans (Ch.of_below hb1)); have HB1 := Lib.hid (HB.out.below hb1); have u1_0 : w1.cell? ⟨w.heap.size, 0, none⟩ = some (.int .i64 x.k) := HB1.out.cell 0; have u1_1 : w1.cell? ⟨w.heap.size, 1, none⟩ = some (.int .i64 x.p) := HB1.out.cell 1; have u1_2 : w1.cell? ⟨w.heap.size, 2, none⟩ = some (.int .i64 x.q) := HB1.out.cell 2; have u1_3 : w1.cell? ⟨w.heap.size, 3, none⟩ = some (.string x.s) := HB1.out.cell 3; have u1_4 : w1.cell? ⟨w.heap.size, 4, none⟩ = some (.int .i64 x.r) := HB1.out.cell 4; have lu1 := HB1.out.lt; clear hb1) | (go_at_call 36; (with_reducible refine (QI.out _ HC1.out).mono ?_); rintro e w2 ⟨rfl, hc2⟩; have HC2 : Hid (Ch [] w w2) := Lib.hid (HC1.out.trans hc2); have HB2 := Lib.hid (HB1.out.ch hc2 (not_nil _)); clear hc2 u1_0 u1_1 u1_2 u1_3 u1_4 lu1))
  go_ret2
  exact ⟨rfl, rg_0 H.out HC2.out⟩
set_option maxHeartbeats 2000000 in
theorem ref_ok (B t : Nat) (vk vf vm : Value) (K : List V5) (F : List Int) (w : World) (h : Rg B t vk vf vm K F w) (hg0 : Gd K F) (x : V5) (hB : B ≤ w.heap.size) (hx1 : okV x = true) (hk : ¬ x.k = 0) (hu : ¬ (K.length : Int) - (F.length : Int) = 1000) :
    Calls Try.prog 18 #[.pointer (some ⟨t, 0, none⟩), .agg #[.int .i64 x.k, .int .i64 x.p, .int .i64 x.q, .string x.s, .int .i64 x.r]] w fun e w' => e = .returned (.tuple #[.int .i64 (refR K F), .int .i64 0]) ∧ RgSaid B t vk vf vm (refK K F x) F.dropLast w w' := by
  have H := Lib.hid h
  have HG := Lib.hid hg0
  have HB : Hid (Blk 33 w.heap.size #[.int .i64 x.k, .int .i64 x.p, .int .i64 x.q, .string x.s, .int .i64 x.r] (w.alloc (.cells #[.int .i64 x.k, .int .i64 x.p, .int .i64 x.q, .string x.s, .int .i64 x.r] 33))) := Lib.hid (Blk.new w _ _ _ rfl)
  have HC : Hid (Ch [] w (w.alloc (.cells #[.int .i64 x.k, .int .i64 x.p, .int .i64 x.q, .string x.s, .int .i64 x.r] 33))) := Lib.hid ((Ch.refl [] w).alloc _)
  have QV : Hid (∀ W, Calls Try.prog 37 #[.agg #[.int .i64 x.k, .int .i64 x.p, .int .i64 x.q, .string x.s, .int .i64 x.r]] W fun e w' => e = .returned (.bool true) ∧ Below W.heap.size W w') := Lib.hid fun W => by rw [← (show okV x = true from hx1)]; exact valid5 x.k x.p x.q x.s x.r W
  have QI : Hid (∀ W, Ch [] w W → Calls Try.prog 36 #[.pointer (some ⟨t, 0, none⟩)] W fun e w' => e = .returned (.int .i64 ((K.length : Int) - (F.length : Int))) ∧ Ch [] W w') := Lib.hid fun W hW => inuse_any B t vk vf vm K F W (h.ch0 hW) hg0
  have hk2 : (x.k == 0) = false := by rw [beq_eq_false_iff_ne]; exact hk
  have hu2 : (((K.length : Int) - (F.length : Int)) == 1000) = false := by rw [beq_eq_false_iff_ne]; exact hu
  have QF : Hid (∀ W, Ch [] w W → Calls Try.prog 38 #[.pointer (some ⟨t, 0, none⟩)] W fun e w' => e = .returned (.int .i64 (refR K F)) ∧ RgSaid B t vk vf vm (freeK K F) F.dropLast W w') := Lib.hid fun W hW => free_all B t vk vf vm K F W (h.ch0 hW) hg0 (Nat.le_trans hB hW.size)
  obtain ⟨i, hi1, hi2, hi3⟩ := ref_at hg0
  obtain ⟨rr, hrr⟩ : ∃ rr, rr = refR K F := ⟨_, rfl⟩
  rw [← hrr] at QF ⊢
  have hri : rr = (i : Int) + 1 := by rw [hrr]; exact hi1
  have hLK : (freeK K F).length ≤ 1001 := by
    have := hg0.top
    unfold freeK; split <;> simp <;> omega
  have HX3 := Lib.hid (hi3 x)
  have HI := Lib.hid (And.intro hi2 hLK)
  have HLT : Hid (∀ g ∈ rgS t vk vf, g < w.heap.size) := Lib.hid fun g hg => (h.lt g hg).2
  generalize freeK K F = K1 at *
  clear hrr hi1 hi2 hi3 hLK
  clear h hg0 hx1
  go_enter Try.func18, Try.ntmps18
  go_upto_region 3 with fail
  generalize (w.alloc (.cells #[.int .i64 x.k, .int .i64 x.p, .int .i64 x.q, .string x.s, .int .i64 x.r] 33)) = w0 at *
  have u0 : w0.cell? ⟨w.heap.size, 0, none⟩ = some (.int .i64 x.k) := HB.out.cell 0
  have u1 : w0.cell? ⟨w.heap.size, 1, none⟩ = some (.int .i64 x.p) := HB.out.cell 1
  have u2 : w0.cell? ⟨w.heap.size, 2, none⟩ = some (.int .i64 x.q) := HB.out.cell 2
  have u3 : w0.cell? ⟨w.heap.size, 3, none⟩ = some (.string x.s) := HB.out.cell 3
  have u4 : w0.cell? ⟨w.heap.size, 4, none⟩ = some (.int .i64 x.r) := HB.out.cell 4
  have lu := HB.out.lt
  go_upto_region 9 with (first | (go_at_call 37; (with_reducible refine (QV.out _).mono ?_); rintro e w1 ⟨rfl, hb1⟩; have HC1 : Hid (Ch [] w w1) := Lib.hid (HC.out.trans (Ch.of_below hb1)); have HB1 := Lib.hid (HB.out.below hb1); have u1_0 : w1.cell? ⟨w.heap.size, 0, none⟩ = some (.int .i64 x.k) := HB1.out.cell 0; have u1_1 : w1.cell? ⟨w.heap.size, 1, none⟩ = some (.int .i64 x.p) := HB1.out.cell 1; have u1_2 : w1.cell? ⟨w.heap.size, 2, none⟩ = some (.int .i64 x.q) := HB1.out.cell 2; have u1_3 : w1.cell? ⟨w.heap.size, 3, none⟩ = some (.string x.s) := HB1.out.cell 3; have u1_4 : w1.cell? ⟨w.heap.size, 4, none⟩ = some (.int .i64 x.r) := HB1.out.cell 4; have lu1 := HB1.out.lt; clear hb1) | (go_at_call 36; (with_reducible refine (QI.out _ HC1.out).mono ?_); rintro e w2 ⟨rfl, hc2⟩; have HC2 : Hid (Ch [] w w2) := Lib.hid (HC1.out.trans hc2); have HB2 := Lib.hid (HB1.out.ch hc2 (not_nil _)); clear hc2 u1_0 u1_1 u1_2 u1_3 u1_4 lu1))
  go_upto_region 10 with (go_at_call 38; (with_reducible refine (QF.out _ HC2.out).mono ?_); rintro e w3 ⟨rfl, hs⟩; have HS3 := Lib.hid hs; have HB3 : Hid (Blk 33 w.heap.size #[.int .i64 x.k, .int .i64 x.p, .int .i64 x.q, .string x.s, .int .i64 x.r] w3) := Lib.hid (HB2.out.ch hs.2 (fun hm => by have := HLT.out _ hm; omega)); clear hs)
  obtain ⟨⟨vk3, vf3, k1, k2⟩, k3⟩ := HS3.out
  have hli : i < K1.length := HI.out.1
  obtain ⟨g, cap, rfl⟩ : ∃ g cap, vk3 = .slice (some ⟨g, 0, none⟩) K1.length cap := by
    rcases form_row k1.rk with ⟨_, h2⟩ | h2
    · omega
    · exact h2
  have HK1 := Lib.hid k1
  have HK2 := Lib.hid k2
  have HK3 := Lib.hid k3
  have HP := Lib.hid (k1.put i hli x)
  have hgl := (k1.lt g (by simp [rgS, Go.Proofs.Ytbfeahafogbbhaa.ob, Value.ownBlock])).2
  obtain ⟨y, hy⟩ : ∃ y, y = K1[i]'hli := ⟨_, rfl⟩
  have hv : ∀ q, q < 5 → w3.cell? ⟨g, i * 5 + q, none⟩ = (vC y)[q]? := fun q hq => by
    rw [k1.rk.cellAt (i * 5 + q) (by omega), flat_at vC 5 vC_len _ i q hli hq, hy]
  have d0 : w3.cell? ⟨g, i * 5, none⟩ = some (.int .i64 y.k) := hv 0 (by omega)
  have d1 : w3.cell? ⟨g, i * 5 + 1, none⟩ = some (.int .i64 y.p) := hv 1 (by omega)
  have d2 : w3.cell? ⟨g, i * 5 + 2, none⟩ = some (.int .i64 y.q) := hv 2 (by omega)
  have d3 : w3.cell? ⟨g, i * 5 + 3, none⟩ = some (.string y.s) := hv 3 (by omega)
  have d4 : w3.cell? ⟨g, i * 5 + 4, none⟩ = some (.int .i64 y.r) := hv 4 (by omega)
  have f0 := k1.rk.frozenAt (i * 5)
  have f1 := k1.rk.frozenAt (i * 5 + 1)
  have f2 := k1.rk.frozenAt (i * 5 + 2)
  have f3 := k1.rk.frozenAt (i * 5 + 3)
  have f4 := k1.rk.frozenAt (i * 5 + 4)
  have u3_0 : w3.cell? ⟨w.heap.size, 0, none⟩ = some (.int .i64 x.k) := HB3.out.cell 0
  have u3_1 : w3.cell? ⟨w.heap.size, 1, none⟩ = some (.int .i64 x.p) := HB3.out.cell 1
  have u3_2 : w3.cell? ⟨w.heap.size, 2, none⟩ = some (.int .i64 x.q) := HB3.out.cell 2
  have u3_3 : w3.cell? ⟨w.heap.size, 3, none⟩ = some (.string x.s) := HB3.out.cell 3
  have u3_4 : w3.cell? ⟨w.heap.size, 4, none⟩ = some (.int .i64 x.r) := HB3.out.cell 4
  have lu3 := HB3.out.lt
  have c0 : w3.cell? ⟨t, 0, none⟩ = some (.slice (some ⟨g, 0, none⟩) K1.length cap) := k1.blk.cell 0
  have hbt := k1.blk.lt
  have hgw : ¬ w.heap.size = g := fun e => by
    subst e
    rcases k2 w.heap.size (by simp [rgS, Go.Proofs.Ytbfeahafogbbhaa.ob, Value.ownBlock]) with q | q
    · have := HLT.out _ q; omega
    · have := HB2.out.lt; omega
  have hgw2 : ¬ g = w.heap.size := fun e => hgw e.symm
  have r3 : IntKind.i64.wrap (rr - 1) = (i : Int) := by rw [show rr - 1 = (i : Int) by omega]; exact IntWalk.i64_in _ (by have := HI.out; omega)
  have hib : i ≤ 1001 := by have := HI.out; omega
  have hi1 : (i : Int) < (K1.length : Int) := by omega
  have hi0 : (0 : Int) ≤ (i : Int) := by omega
  have HRI := Lib.hid hri
  clear hv hy k1 k2 k3 hri hli hk hk2 hu hu2
  go_region
  go_wp2
  go_ret2
  refine ⟨by first | rfl | (rw [HRI.out]; rfl) | simp [HRI.out], ?_⟩
  rw [← HX3.out]
  exact RgSaid.before HC2.out (rg_step HK2.out HK3.out (Ch.refl _ _) (HP.out.after (Ch.refl [] _).drew))
end Go.Proofs.Ytbfeahafogbbhaa
