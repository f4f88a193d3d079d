/- Layer 13: setRest. -/
import Derived.Test.YtaaelhhiceildaaTbE
namespace Go.Proofs.Ytaaelhhiceildaa
open Go.RowKit Go.Joins M1
set_option linter.unusedVariables false
theorem tb_chain {B t : Nat} {va va' : Value} {b b' : Nat} {v m v' m' : Value} {s2 : TS} {w w1 w2 : World} (h2 : ∀ g ∈ tbS t va' b' v' m', g ∈ tbS t va b v m ∨ w.heap.size ≤ g) (h3 : Ch (tbS t va b v m) w w1) (k : TbSaid B t va' b' v' m' s2 w1 w2) : TbSaid B t va b v m s2 w w2 := by
  obtain ⟨⟨va2, b2, v2, m2, k1, k2⟩, k3⟩ := k
  refine ⟨⟨va2, b2, v2, m2, k1, fun g hg => ?_⟩, ⟨k3.os.trans h3.os, k3.tape.trans h3.tape, k3.output.trans h3.output, Nat.le_trans h3.size k3.size, fun g q1 q2 => (k3.block g (Nat.lt_of_lt_of_le q1 h3.size) (fun e => ?_)).trans (h3.block g q1 q2)⟩⟩
  · rcases k2 g hg with q | q
    · exact h2 g q
    · right; have := h3.size; omega
  · rcases h2 g e with q | q
    · exact q2 q
    · omega
theorem tb_setR {B t : Nat} {va : Value} {b : Nat} {v m v' m' : Value} {s : TS} {R' : List Rs} {w W w' : World} (h : Tb B t va b v m s w) (h0 : Ch [] w W) (ho : OmR B b v' m' R' w') (hf : ∀ g ∈ omS b v' m', g ∈ omS b v m ∨ W.heap.size ≤ g) (hc : Ch (omS b v m) W w') : TbSaid B t va b v m ⟨s.arr, s.bl, R', s.st⟩ w w' := by
  have s0 := h0.size
  have hall : Ch (omS b v m) w w' := (h0.mono (fun g hg => absurd hg (not_nil g))).trans hc
  refine ⟨⟨va, b, v', m', ⟨h.blk.ch hall h.apt, h.lo, hall.ownB h.row (fun g hg => (h.apr g hg).2), ho, fun hg => ?_, fun g hg => ⟨(h.apr g hg).1, fun h2 => ?_⟩, h.bnd⟩, fun g hg => ?_⟩, hall.mono (fun g hg => by simp [tbS, hg])⟩
  · rcases hf t hg with q | q
    · exact h.apt q
    · have := h.blk.lt; omega
  · rcases hf g h2 with q | q
    · exact (h.apr g hg).2 q
    · have := (own_lo h.row hg).2; omega
  · simp only [tbS, List.mem_cons, List.mem_append] at hg ⊢
    rcases hg with q | q | q
    · exact .inl (.inl q)
    · exact .inl (.inr (.inl q))
    · rcases hf g q with q | q
      · exact .inl (.inr (.inr q))
      · right; omega
theorem renR_len (R : List Rs) : (renR R).length ≤ R.length := by
  have := renP_len R (keysR R).length (Nat.le_refl _)
  unfold renP at this
  rw [List.take_length] at this
  have h2 := keysR_len R
  have h3 := lenR_le R
  unfold renR
  omega
/-- What a Set in the map part leaves. -/
def restS (s : TS) (k x : V5) : TS := if s.st = true ∧ x.k = 0 ∧ (getR s.R k).k ≠ 0 then ⟨s.arr, s.bl, setR (renR s.R) k x, false⟩ else ⟨s.arr, s.bl, setR s.R k x, s.st⟩
set_option maxHeartbeats 8000000 in
theorem rest_a (B t : Nat) (va : Value) (b : Nat) (v m : Value) (s : TS) (w : World) (h : Tb B t va b v m s w) (k x : V5) (hR : s.R.length ≤ 1000000) (hBw : B ≤ w.heap.size) (hs : s.st = false) :
    Calls Try.prog 31 #[.pointer (some ⟨t, 0, none⟩), .agg #[.int .i64 k.k, .int .i64 k.p, .int .i64 k.q, .string k.s, .int .i64 k.r], .agg #[.int .i64 x.k, .int .i64 x.p, .int .i64 x.q, .string x.s, .int .i64 x.r]] w fun e w' => e = .returned (.int .i64 (errR k x)) ∧ TbSaid B t va b v m (⟨s.arr, s.bl, setR s.R k x, s.st⟩) w w' := by
  have HT0 : Hid (Tb B t va b v m s ((w.alloc (.cells #[.int .i64 k.k, .int .i64 k.p, .int .i64 k.q, .string k.s, .int .i64 k.r] 26)).alloc (.cells #[.int .i64 x.k, .int .i64 x.p, .int .i64 x.q, .string x.s, .int .i64 x.r] 26))) := Lib.hid (h.ch0 (((Ch.refl [] w).alloc _).alloc _))
  have KK0 : Hid (Blk 26 w.heap.size #[.int .i64 k.k, .int .i64 k.p, .int .i64 k.q, .string k.s, .int .i64 k.r] ((w.alloc (.cells #[.int .i64 k.k, .int .i64 k.p, .int .i64 k.q, .string k.s, .int .i64 k.r] 26)).alloc (.cells #[.int .i64 x.k, .int .i64 x.p, .int .i64 x.q, .string x.s, .int .i64 x.r] 26))) := Lib.hid ((Blk.new w 26 _ _ rfl).ch ((Ch.refl [] _).alloc _) (not_nil _))
  have KX0 : Hid (Blk 26 (w.heap.size + 1) #[.int .i64 x.k, .int .i64 x.p, .int .i64 x.q, .string x.s, .int .i64 x.r] ((w.alloc (.cells #[.int .i64 k.k, .int .i64 k.p, .int .i64 k.q, .string k.s, .int .i64 k.r] 26)).alloc (.cells #[.int .i64 x.k, .int .i64 x.p, .int .i64 x.q, .string x.s, .int .i64 x.r] 26))) := Lib.hid (Blk.new _ 26 _ _ (by simp))
  have HC0 : Hid (Ch [] w ((w.alloc (.cells #[.int .i64 k.k, .int .i64 k.p, .int .i64 k.q, .string k.s, .int .i64 k.r] 26)).alloc (.cells #[.int .i64 x.k, .int .i64 x.p, .int .i64 x.q, .string x.s, .int .i64 x.r] 26))) := Lib.hid (((Ch.refl [] w).alloc _).alloc _)
  have HNT : Hid (∀ g ∈ tbS t va b v m, g < w.heap.size) := Lib.hid fun g hg => (h.lt g hg).2
  have HSS := Lib.hid hs
  have HBW := Lib.hid hBw
  clear h hBw
  go_enter Try.func31, Try.ntmps31
  go_upto_region 1 with fail
  generalize ((w.alloc (.cells #[.int .i64 k.k, .int .i64 k.p, .int .i64 k.q, .string k.s, .int .i64 k.r] 26)).alloc (.cells #[.int .i64 x.k, .int .i64 x.p, .int .i64 x.q, .string x.s, .int .i64 x.r] 26)) = w0 at *
  have HBV : Hid (B ≤ w0.heap.size) := Lib.hid (Nat.le_trans HBW.out HC0.out.size)
  have c3 : w0.cell? ⟨t, 3, none⟩ = some (.bool false) := by have := HT0.out.blk.cell 3; rw [hs] at this; exact this
  have c2 : w0.cell? ⟨t, 2, none⟩ = some (.pointer (some ⟨b, 0, none⟩)) := HT0.out.blk.cell 2
  have hbl := HT0.out.blk.lt
  have u0 : w0.cell? ⟨w.heap.size, 0, none⟩ = some (.int .i64 k.k) := KK0.out.cell 0
  have u1 : w0.cell? ⟨w.heap.size, 1, none⟩ = some (.int .i64 k.p) := KK0.out.cell 1
  have u2 : w0.cell? ⟨w.heap.size, 2, none⟩ = some (.int .i64 k.q) := KK0.out.cell 2
  have u3 : w0.cell? ⟨w.heap.size, 3, none⟩ = some (.string k.s) := KK0.out.cell 3
  have u4 : w0.cell? ⟨w.heap.size, 4, none⟩ = some (.int .i64 k.r) := KK0.out.cell 4
  have z0 : w0.cell? ⟨(w.heap.size + 1), 0, none⟩ = some (.int .i64 x.k) := KX0.out.cell 0
  have z1 : w0.cell? ⟨(w.heap.size + 1), 1, none⟩ = some (.int .i64 x.p) := KX0.out.cell 1
  have z2 : w0.cell? ⟨(w.heap.size + 1), 2, none⟩ = some (.int .i64 x.q) := KX0.out.cell 2
  have z3 : w0.cell? ⟨(w.heap.size + 1), 3, none⟩ = some (.string x.s) := KX0.out.cell 3
  have z4 : w0.cell? ⟨(w.heap.size + 1), 4, none⟩ = some (.int .i64 x.r) := KX0.out.cell 4
  have lu := KK0.out.lt
  have lz := KX0.out.lt
  go_quiet (fail)
  go_upto_region 3 with fail
  go_name_world V1 hV
  have HC1 : Hid (Ch [] w0 V1) := Lib.hid (by rw [← hV]; first | exact (Ch.refl [] w0).drewN _ | exact (Ch.refl [] w0).drew | exact Ch.refl [] w0)
  have HT1 := Lib.hid (HT0.out.ch0 HC1.out)
  have KK1 := Lib.hid (KK0.out.ch HC1.out (not_nil _))
  have KX1 := Lib.hid (KX0.out.ch HC1.out (not_nil _))
  have HRL := Lib.hid hR
  have HBV : Hid (B ≤ V1.heap.size) := Lib.hid (Nat.le_trans HBV.out HC1.out.size)
  clear hV
  clear c3 c2 hbl u0 u1 u2 u3 u4 z0 z1 z2 z3 z4 lu lz
  have c2 : V1.cell? ⟨t, 2, none⟩ = some (.pointer (some ⟨b, 0, none⟩)) := HT1.out.blk.cell 2
  have hbl := HT1.out.blk.lt
  have u0 : V1.cell? ⟨w.heap.size, 0, none⟩ = some (.int .i64 k.k) := KK1.out.cell 0
  have u1 : V1.cell? ⟨w.heap.size, 1, none⟩ = some (.int .i64 k.p) := KK1.out.cell 1
  have u2 : V1.cell? ⟨w.heap.size, 2, none⟩ = some (.int .i64 k.q) := KK1.out.cell 2
  have u3 : V1.cell? ⟨w.heap.size, 3, none⟩ = some (.string k.s) := KK1.out.cell 3
  have u4 : V1.cell? ⟨w.heap.size, 4, none⟩ = some (.int .i64 k.r) := KK1.out.cell 4
  have z0 : V1.cell? ⟨(w.heap.size + 1), 0, none⟩ = some (.int .i64 x.k) := KX1.out.cell 0
  have z1 : V1.cell? ⟨(w.heap.size + 1), 1, none⟩ = some (.int .i64 x.p) := KX1.out.cell 1
  have z2 : V1.cell? ⟨(w.heap.size + 1), 2, none⟩ = some (.int .i64 x.q) := KX1.out.cell 2
  have z3 : V1.cell? ⟨(w.heap.size + 1), 3, none⟩ = some (.string x.s) := KX1.out.cell 3
  have z4 : V1.cell? ⟨(w.heap.size + 1), 4, none⟩ = some (.int .i64 x.r) := KX1.out.cell 4
  have lu := KK1.out.lt
  have lz := KX1.out.lt
  have QS : Hid (∀ W', Ch [] V1 W' → Calls Try.prog 48 #[.pointer (some ⟨b, 0, none⟩), .agg #[.int .i64 k.k, .int .i64 k.p, .int .i64 k.q, .string k.s, .int .i64 k.r], .agg #[.int .i64 x.k, .int .i64 x.p, .int .i64 x.q, .string x.s, .int .i64 x.r]] W' fun e w' => e = .returned (.int .i64 (errR k x)) ∧ (∃ v' m', OmR B b v' m' (setR (s).R k x) w' ∧ ∀ g ∈ omS b v' m', g ∈ omS b v m ∨ W'.heap.size ≤ g) ∧ Ch (omS b v m) W' w') := Lib.hid fun W' hc => set_R B b v m (s).R k x W' (HT1.out.om.ch hc (fun g _ => not_nil g)) HRL.out (Nat.le_trans HBV.out hc.size)
  go_region_law (go_simp; go_at_call 48; (with_reducible refine (QS.out _ ?hc).mono ?_); (case hc => first | exact Ch.refl _ _ | exact (Ch.refl _ _).drew | exact (Ch.refl _ _).drewN _); rintro e w3 ⟨rfl, ⟨v3, m3, ho3, hf3⟩, hc3⟩; (first | have HE3 := Lib.hid (tb_setR HT1.out (Ch.refl [] _) ho3 hf3 hc3) | have HE3 := Lib.hid (tb_setR HT1.out ((Ch.refl [] _).drew) ho3 hf3 hc3) | have HE3 := Lib.hid (tb_setR HT1.out ((Ch.refl [] _).drewN _) ho3 hf3 hc3)); clear ho3 hf3 hc3)
  all_goals (
    go_wp2
    go_ret
    exact ⟨rfl, tb_chain (fun g hg => .inl hg) ((HC0.out.trans HC1.out).mono (fun g hg => absurd hg (not_nil g))) HE3.out⟩)
set_option maxHeartbeats 8000000 in
theorem rest_b (B t : Nat) (va : Value) (b : Nat) (v m : Value) (s : TS) (w : World) (h : Tb B t va b v m s w) (k x : V5) (hR : s.R.length ≤ 1000000) (hBw : B ≤ w.heap.size) (hs : s.st = true) (hx : x.k ≠ 0) :
    Calls Try.prog 31 #[.pointer (some ⟨t, 0, none⟩), .agg #[.int .i64 k.k, .int .i64 k.p, .int .i64 k.q, .string k.s, .int .i64 k.r], .agg #[.int .i64 x.k, .int .i64 x.p, .int .i64 x.q, .string x.s, .int .i64 x.r]] w fun e w' => e = .returned (.int .i64 (errR k x)) ∧ TbSaid B t va b v m (⟨s.arr, s.bl, setR s.R k x, s.st⟩) w w' := by
  have HT0 : Hid (Tb B t va b v m s ((w.alloc (.cells #[.int .i64 k.k, .int .i64 k.p, .int .i64 k.q, .string k.s, .int .i64 k.r] 26)).alloc (.cells #[.int .i64 x.k, .int .i64 x.p, .int .i64 x.q, .string x.s, .int .i64 x.r] 26))) := Lib.hid (h.ch0 (((Ch.refl [] w).alloc _).alloc _))
  have KK0 : Hid (Blk 26 w.heap.size #[.int .i64 k.k, .int .i64 k.p, .int .i64 k.q, .string k.s, .int .i64 k.r] ((w.alloc (.cells #[.int .i64 k.k, .int .i64 k.p, .int .i64 k.q, .string k.s, .int .i64 k.r] 26)).alloc (.cells #[.int .i64 x.k, .int .i64 x.p, .int .i64 x.q, .string x.s, .int .i64 x.r] 26))) := Lib.hid ((Blk.new w 26 _ _ rfl).ch ((Ch.refl [] _).alloc _) (not_nil _))
  have KX0 : Hid (Blk 26 (w.heap.size + 1) #[.int .i64 x.k, .int .i64 x.p, .int .i64 x.q, .string x.s, .int .i64 x.r] ((w.alloc (.cells #[.int .i64 k.k, .int .i64 k.p, .int .i64 k.q, .string k.s, .int .i64 k.r] 26)).alloc (.cells #[.int .i64 x.k, .int .i64 x.p, .int .i64 x.q, .string x.s, .int .i64 x.r] 26))) := Lib.hid (Blk.new _ 26 _ _ (by simp))
  have HC0 : Hid (Ch [] w ((w.alloc (.cells #[.int .i64 k.k, .int .i64 k.p, .int .i64 k.q, .string k.s, .int .i64 k.r] 26)).alloc (.cells #[.int .i64 x.k, .int .i64 x.p, .int .i64 x.q, .string x.s, .int .i64 x.r] 26))) := Lib.hid (((Ch.refl [] w).alloc _).alloc _)
  have HNT : Hid (∀ g ∈ tbS t va b v m, g < w.heap.size) := Lib.hid fun g hg => (h.lt g hg).2
  have ex : (x.k == 0) = false := beq_eq_false_iff_ne.2 hx
  have HBW := Lib.hid hBw
  clear h hBw
  go_enter Try.func31, Try.ntmps31
  go_upto_region 1 with fail
  generalize ((w.alloc (.cells #[.int .i64 k.k, .int .i64 k.p, .int .i64 k.q, .string k.s, .int .i64 k.r] 26)).alloc (.cells #[.int .i64 x.k, .int .i64 x.p, .int .i64 x.q, .string x.s, .int .i64 x.r] 26)) = w0 at *
  have HBV : Hid (B ≤ w0.heap.size) := Lib.hid (Nat.le_trans HBW.out HC0.out.size)
  have c3 : w0.cell? ⟨t, 3, none⟩ = some (.bool true) := by have := HT0.out.blk.cell 3; rw [hs] at this; exact this
  have c2 : w0.cell? ⟨t, 2, none⟩ = some (.pointer (some ⟨b, 0, none⟩)) := HT0.out.blk.cell 2
  have hbl := HT0.out.blk.lt
  have u0 : w0.cell? ⟨w.heap.size, 0, none⟩ = some (.int .i64 k.k) := KK0.out.cell 0
  have u1 : w0.cell? ⟨w.heap.size, 1, none⟩ = some (.int .i64 k.p) := KK0.out.cell 1
  have u2 : w0.cell? ⟨w.heap.size, 2, none⟩ = some (.int .i64 k.q) := KK0.out.cell 2
  have u3 : w0.cell? ⟨w.heap.size, 3, none⟩ = some (.string k.s) := KK0.out.cell 3
  have u4 : w0.cell? ⟨w.heap.size, 4, none⟩ = some (.int .i64 k.r) := KK0.out.cell 4
  have z0 : w0.cell? ⟨(w.heap.size + 1), 0, none⟩ = some (.int .i64 x.k) := KX0.out.cell 0
  have z1 : w0.cell? ⟨(w.heap.size + 1), 1, none⟩ = some (.int .i64 x.p) := KX0.out.cell 1
  have z2 : w0.cell? ⟨(w.heap.size + 1), 2, none⟩ = some (.int .i64 x.q) := KX0.out.cell 2
  have z3 : w0.cell? ⟨(w.heap.size + 1), 3, none⟩ = some (.string x.s) := KX0.out.cell 3
  have z4 : w0.cell? ⟨(w.heap.size + 1), 4, none⟩ = some (.int .i64 x.r) := KX0.out.cell 4
  have lu := KK0.out.lt
  have lz := KX0.out.lt
  go_quiet (fail)
  go_upto_region 3 with fail
  go_name_world V1 hV
  have HC1 : Hid (Ch [] w0 V1) := Lib.hid (by rw [← hV]; first | exact (Ch.refl [] w0).drewN _ | exact (Ch.refl [] w0).drew | exact Ch.refl [] w0)
  have HT1 := Lib.hid (HT0.out.ch0 HC1.out)
  have KK1 := Lib.hid (KK0.out.ch HC1.out (not_nil _))
  have KX1 := Lib.hid (KX0.out.ch HC1.out (not_nil _))
  have HRL := Lib.hid hR
  have HBV : Hid (B ≤ V1.heap.size) := Lib.hid (Nat.le_trans HBV.out HC1.out.size)
  clear hV
  clear c3 c2 hbl u0 u1 u2 u3 u4 z0 z1 z2 z3 z4 lu lz
  have c2 : V1.cell? ⟨t, 2, none⟩ = some (.pointer (some ⟨b, 0, none⟩)) := HT1.out.blk.cell 2
  have hbl := HT1.out.blk.lt
  have u0 : V1.cell? ⟨w.heap.size, 0, none⟩ = some (.int .i64 k.k) := KK1.out.cell 0
  have u1 : V1.cell? ⟨w.heap.size, 1, none⟩ = some (.int .i64 k.p) := KK1.out.cell 1
  have u2 : V1.cell? ⟨w.heap.size, 2, none⟩ = some (.int .i64 k.q) := KK1.out.cell 2
  have u3 : V1.cell? ⟨w.heap.size, 3, none⟩ = some (.string k.s) := KK1.out.cell 3
  have u4 : V1.cell? ⟨w.heap.size, 4, none⟩ = some (.int .i64 k.r) := KK1.out.cell 4
  have z0 : V1.cell? ⟨(w.heap.size + 1), 0, none⟩ = some (.int .i64 x.k) := KX1.out.cell 0
  have z1 : V1.cell? ⟨(w.heap.size + 1), 1, none⟩ = some (.int .i64 x.p) := KX1.out.cell 1
  have z2 : V1.cell? ⟨(w.heap.size + 1), 2, none⟩ = some (.int .i64 x.q) := KX1.out.cell 2
  have z3 : V1.cell? ⟨(w.heap.size + 1), 3, none⟩ = some (.string x.s) := KX1.out.cell 3
  have z4 : V1.cell? ⟨(w.heap.size + 1), 4, none⟩ = some (.int .i64 x.r) := KX1.out.cell 4
  have lu := KK1.out.lt
  have lz := KX1.out.lt
  have QS : Hid (∀ W', Ch [] V1 W' → Calls Try.prog 48 #[.pointer (some ⟨b, 0, none⟩), .agg #[.int .i64 k.k, .int .i64 k.p, .int .i64 k.q, .string k.s, .int .i64 k.r], .agg #[.int .i64 x.k, .int .i64 x.p, .int .i64 x.q, .string x.s, .int .i64 x.r]] W' fun e w' => e = .returned (.int .i64 (errR k x)) ∧ (∃ v' m', OmR B b v' m' (setR (s).R k x) w' ∧ ∀ g ∈ omS b v' m', g ∈ omS b v m ∨ W'.heap.size ≤ g) ∧ Ch (omS b v m) W' w') := Lib.hid fun W' hc => set_R B b v m (s).R k x W' (HT1.out.om.ch hc (fun g _ => not_nil g)) HRL.out (Nat.le_trans HBV.out hc.size)
  go_region_law (go_simp; go_at_call 48; (with_reducible refine (QS.out _ ?hc).mono ?_); (case hc => first | exact Ch.refl _ _ | exact (Ch.refl _ _).drew | exact (Ch.refl _ _).drewN _); rintro e w3 ⟨rfl, ⟨v3, m3, ho3, hf3⟩, hc3⟩; (first | have HE3 := Lib.hid (tb_setR HT1.out (Ch.refl [] _) ho3 hf3 hc3) | have HE3 := Lib.hid (tb_setR HT1.out ((Ch.refl [] _).drew) ho3 hf3 hc3) | have HE3 := Lib.hid (tb_setR HT1.out ((Ch.refl [] _).drewN _) ho3 hf3 hc3)); clear ho3 hf3 hc3)
  all_goals (
    go_wp2
    go_ret
    exact ⟨rfl, tb_chain (fun g hg => .inl hg) ((HC0.out.trans HC1.out).mono (fun g hg => absurd hg (not_nil g))) HE3.out⟩)
theorem fd_valT (k p q : Int) (s : ByteArray) (r : Int) (W : World) : (Instr.field 26 (.agg #[.int .i64 k, .int .i64 p, .int .i64 q, .string s, .int .i64 r]) 0).run Try.prog W = .ok (.int .i64 k) W := by kernel_rfl
set_option maxHeartbeats 8000000 in
theorem rest_c (B t : Nat) (va : Value) (b : Nat) (v m : Value) (s : TS) (w : World) (h : Tb B t va b v m s w) (k x : V5) (hR : s.R.length ≤ 1000000) (hBw : B ≤ w.heap.size) (hs : s.st = true) (hx : x.k = 0) (hg : (getR s.R k).k = 0) :
    Calls Try.prog 31 #[.pointer (some ⟨t, 0, none⟩), .agg #[.int .i64 k.k, .int .i64 k.p, .int .i64 k.q, .string k.s, .int .i64 k.r], .agg #[.int .i64 x.k, .int .i64 x.p, .int .i64 x.q, .string x.s, .int .i64 x.r]] w fun e w' => e = .returned (.int .i64 (errR k x)) ∧ TbSaid B t va b v m (⟨s.arr, s.bl, setR s.R k x, s.st⟩) w w' := by
  have HT0 : Hid (Tb B t va b v m s ((w.alloc (.cells #[.int .i64 k.k, .int .i64 k.p, .int .i64 k.q, .string k.s, .int .i64 k.r] 26)).alloc (.cells #[.int .i64 x.k, .int .i64 x.p, .int .i64 x.q, .string x.s, .int .i64 x.r] 26))) := Lib.hid (h.ch0 (((Ch.refl [] w).alloc _).alloc _))
  have KK0 : Hid (Blk 26 w.heap.size #[.int .i64 k.k, .int .i64 k.p, .int .i64 k.q, .string k.s, .int .i64 k.r] ((w.alloc (.cells #[.int .i64 k.k, .int .i64 k.p, .int .i64 k.q, .string k.s, .int .i64 k.r] 26)).alloc (.cells #[.int .i64 x.k, .int .i64 x.p, .int .i64 x.q, .string x.s, .int .i64 x.r] 26))) := Lib.hid ((Blk.new w 26 _ _ rfl).ch ((Ch.refl [] _).alloc _) (not_nil _))
  have KX0 : Hid (Blk 26 (w.heap.size + 1) #[.int .i64 x.k, .int .i64 x.p, .int .i64 x.q, .string x.s, .int .i64 x.r] ((w.alloc (.cells #[.int .i64 k.k, .int .i64 k.p, .int .i64 k.q, .string k.s, .int .i64 k.r] 26)).alloc (.cells #[.int .i64 x.k, .int .i64 x.p, .int .i64 x.q, .string x.s, .int .i64 x.r] 26))) := Lib.hid (Blk.new _ 26 _ _ (by simp))
  have HC0 : Hid (Ch [] w ((w.alloc (.cells #[.int .i64 k.k, .int .i64 k.p, .int .i64 k.q, .string k.s, .int .i64 k.r] 26)).alloc (.cells #[.int .i64 x.k, .int .i64 x.p, .int .i64 x.q, .string x.s, .int .i64 x.r] 26))) := Lib.hid (((Ch.refl [] w).alloc _).alloc _)
  have HNT : Hid (∀ g ∈ tbS t va b v m, g < w.heap.size) := Lib.hid fun g hg => (h.lt g hg).2
  have ex : (x.k == 0) = true := beq_iff_eq.2 hx
  have eg : ((getR s.R k).k != 0) = false := by simp [hg]
  clear hx hg
  have HBW := Lib.hid hBw
  clear h hBw
  go_enter Try.func31, Try.ntmps31
  go_upto_region 1 with fail
  generalize ((w.alloc (.cells #[.int .i64 k.k, .int .i64 k.p, .int .i64 k.q, .string k.s, .int .i64 k.r] 26)).alloc (.cells #[.int .i64 x.k, .int .i64 x.p, .int .i64 x.q, .string x.s, .int .i64 x.r] 26)) = w0 at *
  have HBV : Hid (B ≤ w0.heap.size) := Lib.hid (Nat.le_trans HBW.out HC0.out.size)
  have c3 : w0.cell? ⟨t, 3, none⟩ = some (.bool true) := by have := HT0.out.blk.cell 3; rw [hs] at this; exact this
  have c2 : w0.cell? ⟨t, 2, none⟩ = some (.pointer (some ⟨b, 0, none⟩)) := HT0.out.blk.cell 2
  have hbl := HT0.out.blk.lt
  have u0 : w0.cell? ⟨w.heap.size, 0, none⟩ = some (.int .i64 k.k) := KK0.out.cell 0
  have u1 : w0.cell? ⟨w.heap.size, 1, none⟩ = some (.int .i64 k.p) := KK0.out.cell 1
  have u2 : w0.cell? ⟨w.heap.size, 2, none⟩ = some (.int .i64 k.q) := KK0.out.cell 2
  have u3 : w0.cell? ⟨w.heap.size, 3, none⟩ = some (.string k.s) := KK0.out.cell 3
  have u4 : w0.cell? ⟨w.heap.size, 4, none⟩ = some (.int .i64 k.r) := KK0.out.cell 4
  have z0 : w0.cell? ⟨(w.heap.size + 1), 0, none⟩ = some (.int .i64 x.k) := KX0.out.cell 0
  have z1 : w0.cell? ⟨(w.heap.size + 1), 1, none⟩ = some (.int .i64 x.p) := KX0.out.cell 1
  have z2 : w0.cell? ⟨(w.heap.size + 1), 2, none⟩ = some (.int .i64 x.q) := KX0.out.cell 2
  have z3 : w0.cell? ⟨(w.heap.size + 1), 3, none⟩ = some (.string x.s) := KX0.out.cell 3
  have z4 : w0.cell? ⟨(w.heap.size + 1), 4, none⟩ = some (.int .i64 x.r) := KX0.out.cell 4
  have lu := KK0.out.lt
  have lz := KX0.out.lt
  have QG : Hid (∀ W, OmR B b v m s.R W → Calls Try.prog 33 #[.pointer (some ⟨b, 0, none⟩), .agg #[.int .i64 k.k, .int .i64 k.p, .int .i64 k.q, .string k.s, .int .i64 k.r]] W fun e w' => e = .returned (.agg #[.int .i64 (getR s.R k).k, .int .i64 (getR s.R k).p, .int .i64 (getR s.R k).q, .string (getR s.R k).s, .int .i64 (getR s.R k).r]) ∧ Below W.heap.size W w') := Lib.hid fun W hw => get_R B b v m s.R k W hw hR
  have HRL0 := Lib.hid hR
  have FD := fd_valT
  have ho6 := HT0.out.om
  have hW := Below.refl w0.heap.size w0
  have hcc : ∀ c o, c < w0.heap.size → w0.drew.cell? ⟨c, o, none⟩ = w0.cell? ⟨c, o, none⟩ := fun _ _ _ => rfl
  generalize getR s.R k = y at *
  go_region_held3 (fun w' => (∀ c o, c < w0.heap.size → w'.cell? ⟨c, o, none⟩ = w0.cell? ⟨c, o, none⟩) ∧ OmR B b v m s.R w' ∧ Below w0.heap.size w0 w') (first | assumption | exact ⟨hcc, ho6.ch ((Ch.refl [] w0).drew) (by simp), hW.drew⟩ | exact keepL (by assumption) hb7) (first | (go_at_call 33; have hE := (‹_ ∧ OmR _ _ _ _ _ _ ∧ Below _ _ _›).2.1; (with_reducible refine (QG.out _ hE).mono ?_); clear hE; rintro e w7 ⟨rfl, hb7⟩))
  all_goals (
    have hS := ‹_ ∧ OmR _ _ _ _ _ _ ∧ Below _ _ _›
    rename World => V1
    have HC1 : Hid (Ch [] w0 V1) := Lib.hid (Ch.of_below hS.2.2)
    have HT1 := Lib.hid (HT0.out.ch0 HC1.out)
    have KK1 := Lib.hid (KK0.out.ch HC1.out (not_nil _))
    have KX1 := Lib.hid (KX0.out.ch HC1.out (not_nil _))
    clear hS ho6 hW hcc FD
    clear c3 c2 hbl u0 u1 u2 u3 u4 z0 z1 z2 z3 z4 lu lz
    have HRL := Lib.hid HRL0.out
    have HBV : Hid (B ≤ V1.heap.size) := Lib.hid (Nat.le_trans HBV.out HC1.out.size)
    go_upto_region 3 with fail
    have c2 : V1.cell? ⟨t, 2, none⟩ = some (.pointer (some ⟨b, 0, none⟩)) := HT1.out.blk.cell 2
    have hbl := HT1.out.blk.lt
    have u0 : V1.cell? ⟨w.heap.size, 0, none⟩ = some (.int .i64 k.k) := KK1.out.cell 0
    have u1 : V1.cell? ⟨w.heap.size, 1, none⟩ = some (.int .i64 k.p) := KK1.out.cell 1
    have u2 : V1.cell? ⟨w.heap.size, 2, none⟩ = some (.int .i64 k.q) := KK1.out.cell 2
    have u3 : V1.cell? ⟨w.heap.size, 3, none⟩ = some (.string k.s) := KK1.out.cell 3
    have u4 : V1.cell? ⟨w.heap.size, 4, none⟩ = some (.int .i64 k.r) := KK1.out.cell 4
    have z0 : V1.cell? ⟨(w.heap.size + 1), 0, none⟩ = some (.int .i64 x.k) := KX1.out.cell 0
    have z1 : V1.cell? ⟨(w.heap.size + 1), 1, none⟩ = some (.int .i64 x.p) := KX1.out.cell 1
    have z2 : V1.cell? ⟨(w.heap.size + 1), 2, none⟩ = some (.int .i64 x.q) := KX1.out.cell 2
    have z3 : V1.cell? ⟨(w.heap.size + 1), 3, none⟩ = some (.string x.s) := KX1.out.cell 3
    have z4 : V1.cell? ⟨(w.heap.size + 1), 4, none⟩ = some (.int .i64 x.r) := KX1.out.cell 4
    have lu := KK1.out.lt
    have lz := KX1.out.lt
    have QS : Hid (∀ W', Ch [] V1 W' → Calls Try.prog 48 #[.pointer (some ⟨b, 0, none⟩), .agg #[.int .i64 k.k, .int .i64 k.p, .int .i64 k.q, .string k.s, .int .i64 k.r], .agg #[.int .i64 x.k, .int .i64 x.p, .int .i64 x.q, .string x.s, .int .i64 x.r]] W' fun e w' => e = .returned (.int .i64 (errR k x)) ∧ (∃ v' m', OmR B b v' m' (setR (s).R k x) w' ∧ ∀ g ∈ omS b v' m', g ∈ omS b v m ∨ W'.heap.size ≤ g) ∧ Ch (omS b v m) W' w') := Lib.hid fun W' hc => set_R B b v m (s).R k x W' (HT1.out.om.ch hc (fun g _ => not_nil g)) HRL.out (Nat.le_trans HBV.out hc.size)
    go_region_law (go_simp; go_at_call 48; (with_reducible refine (QS.out _ ?hc).mono ?_); (case hc => first | exact Ch.refl _ _ | exact (Ch.refl _ _).drew | exact (Ch.refl _ _).drewN _); rintro e w3 ⟨rfl, ⟨v3, m3, ho3, hf3⟩, hc3⟩; (first | have HE3 := Lib.hid (tb_setR HT1.out (Ch.refl [] _) ho3 hf3 hc3) | have HE3 := Lib.hid (tb_setR HT1.out ((Ch.refl [] _).drew) ho3 hf3 hc3) | have HE3 := Lib.hid (tb_setR HT1.out ((Ch.refl [] _).drewN _) ho3 hf3 hc3)); clear ho3 hf3 hc3)
    all_goals (
      go_wp2
      go_ret
      exact ⟨rfl, tb_chain (fun g hg => .inl hg) ((HC0.out.trans HC1.out).mono (fun g hg => absurd hg (not_nil g))) HE3.out⟩))
set_option maxHeartbeats 8000000 in
theorem rest_d (B t : Nat) (va : Value) (b : Nat) (v m : Value) (s : TS) (w : World) (h : Tb B t va b v m s w) (k x : V5) (hR : s.R.length ≤ 1000000) (hBw : B ≤ w.heap.size) (hs : s.st = true) (hx : x.k = 0) (hg : (getR s.R k).k ≠ 0) :
    Calls Try.prog 31 #[.pointer (some ⟨t, 0, none⟩), .agg #[.int .i64 k.k, .int .i64 k.p, .int .i64 k.q, .string k.s, .int .i64 k.r], .agg #[.int .i64 x.k, .int .i64 x.p, .int .i64 x.q, .string x.s, .int .i64 x.r]] w fun e w' => e = .returned (.int .i64 (errR k x)) ∧ TbSaid B t va b v m (⟨s.arr, s.bl, setR (renR s.R) k x, false⟩) w w' := by
  have HT0 : Hid (Tb B t va b v m s ((w.alloc (.cells #[.int .i64 k.k, .int .i64 k.p, .int .i64 k.q, .string k.s, .int .i64 k.r] 26)).alloc (.cells #[.int .i64 x.k, .int .i64 x.p, .int .i64 x.q, .string x.s, .int .i64 x.r] 26))) := Lib.hid (h.ch0 (((Ch.refl [] w).alloc _).alloc _))
  have KK0 : Hid (Blk 26 w.heap.size #[.int .i64 k.k, .int .i64 k.p, .int .i64 k.q, .string k.s, .int .i64 k.r] ((w.alloc (.cells #[.int .i64 k.k, .int .i64 k.p, .int .i64 k.q, .string k.s, .int .i64 k.r] 26)).alloc (.cells #[.int .i64 x.k, .int .i64 x.p, .int .i64 x.q, .string x.s, .int .i64 x.r] 26))) := Lib.hid ((Blk.new w 26 _ _ rfl).ch ((Ch.refl [] _).alloc _) (not_nil _))
  have KX0 : Hid (Blk 26 (w.heap.size + 1) #[.int .i64 x.k, .int .i64 x.p, .int .i64 x.q, .string x.s, .int .i64 x.r] ((w.alloc (.cells #[.int .i64 k.k, .int .i64 k.p, .int .i64 k.q, .string k.s, .int .i64 k.r] 26)).alloc (.cells #[.int .i64 x.k, .int .i64 x.p, .int .i64 x.q, .string x.s, .int .i64 x.r] 26))) := Lib.hid (Blk.new _ 26 _ _ (by simp))
  have HC0 : Hid (Ch [] w ((w.alloc (.cells #[.int .i64 k.k, .int .i64 k.p, .int .i64 k.q, .string k.s, .int .i64 k.r] 26)).alloc (.cells #[.int .i64 x.k, .int .i64 x.p, .int .i64 x.q, .string x.s, .int .i64 x.r] 26))) := Lib.hid (((Ch.refl [] w).alloc _).alloc _)
  have HNT : Hid (∀ g ∈ tbS t va b v m, g < w.heap.size) := Lib.hid fun g hg => (h.lt g hg).2
  have ex : (x.k == 0) = true := beq_iff_eq.2 hx
  have eg : ((getR s.R k).k != 0) = true := bne_iff_ne.2 hg
  clear hx hg
  have HBW := Lib.hid hBw
  clear h hBw
  go_enter Try.func31, Try.ntmps31
  go_upto_region 1 with fail
  generalize ((w.alloc (.cells #[.int .i64 k.k, .int .i64 k.p, .int .i64 k.q, .string k.s, .int .i64 k.r] 26)).alloc (.cells #[.int .i64 x.k, .int .i64 x.p, .int .i64 x.q, .string x.s, .int .i64 x.r] 26)) = w0 at *
  have HBV : Hid (B ≤ w0.heap.size) := Lib.hid (Nat.le_trans HBW.out HC0.out.size)
  have c3 : w0.cell? ⟨t, 3, none⟩ = some (.bool true) := by have := HT0.out.blk.cell 3; rw [hs] at this; exact this
  have c2 : w0.cell? ⟨t, 2, none⟩ = some (.pointer (some ⟨b, 0, none⟩)) := HT0.out.blk.cell 2
  have hbl := HT0.out.blk.lt
  have u0 : w0.cell? ⟨w.heap.size, 0, none⟩ = some (.int .i64 k.k) := KK0.out.cell 0
  have u1 : w0.cell? ⟨w.heap.size, 1, none⟩ = some (.int .i64 k.p) := KK0.out.cell 1
  have u2 : w0.cell? ⟨w.heap.size, 2, none⟩ = some (.int .i64 k.q) := KK0.out.cell 2
  have u3 : w0.cell? ⟨w.heap.size, 3, none⟩ = some (.string k.s) := KK0.out.cell 3
  have u4 : w0.cell? ⟨w.heap.size, 4, none⟩ = some (.int .i64 k.r) := KK0.out.cell 4
  have z0 : w0.cell? ⟨(w.heap.size + 1), 0, none⟩ = some (.int .i64 x.k) := KX0.out.cell 0
  have z1 : w0.cell? ⟨(w.heap.size + 1), 1, none⟩ = some (.int .i64 x.p) := KX0.out.cell 1
  have z2 : w0.cell? ⟨(w.heap.size + 1), 2, none⟩ = some (.int .i64 x.q) := KX0.out.cell 2
  have z3 : w0.cell? ⟨(w.heap.size + 1), 3, none⟩ = some (.string x.s) := KX0.out.cell 3
  have z4 : w0.cell? ⟨(w.heap.size + 1), 4, none⟩ = some (.int .i64 x.r) := KX0.out.cell 4
  have lu := KK0.out.lt
  have lz := KX0.out.lt
  have QG : Hid (∀ W, OmR B b v m s.R W → Calls Try.prog 33 #[.pointer (some ⟨b, 0, none⟩), .agg #[.int .i64 k.k, .int .i64 k.p, .int .i64 k.q, .string k.s, .int .i64 k.r]] W fun e w' => e = .returned (.agg #[.int .i64 (getR s.R k).k, .int .i64 (getR s.R k).p, .int .i64 (getR s.R k).q, .string (getR s.R k).s, .int .i64 (getR s.R k).r]) ∧ Below W.heap.size W w') := Lib.hid fun W hw => get_R B b v m s.R k W hw hR
  have HRL0 := Lib.hid hR
  have FD := fd_valT
  have ho6 := HT0.out.om
  have hW := Below.refl w0.heap.size w0
  have hcc : ∀ c o, c < w0.heap.size → w0.drew.cell? ⟨c, o, none⟩ = w0.cell? ⟨c, o, none⟩ := fun _ _ _ => rfl
  generalize getR s.R k = y at *
  go_region_held3 (fun w' => (∀ c o, c < w0.heap.size → w'.cell? ⟨c, o, none⟩ = w0.cell? ⟨c, o, none⟩) ∧ OmR B b v m s.R w' ∧ Below w0.heap.size w0 w') (first | assumption | exact ⟨hcc, ho6.ch ((Ch.refl [] w0).drew) (by simp), hW.drew⟩ | exact keepL (by assumption) hb7) (first | (go_at_call 33; have hE := (‹_ ∧ OmR _ _ _ _ _ _ ∧ Below _ _ _›).2.1; (with_reducible refine (QG.out _ hE).mono ?_); clear hE; rintro e w7 ⟨rfl, hb7⟩))
  all_goals (
    have hS := ‹_ ∧ OmR _ _ _ _ _ _ ∧ Below _ _ _›
    rename World => V1
    have HC1 : Hid (Ch [] w0 V1) := Lib.hid (Ch.of_below hS.2.2)
    have HT1 := Lib.hid (HT0.out.ch0 HC1.out)
    have KK1 := Lib.hid (KK0.out.ch HC1.out (not_nil _))
    have KX1 := Lib.hid (KX0.out.ch HC1.out (not_nil _))
    clear hS ho6 hW hcc FD
    clear c3 c2 hbl u0 u1 u2 u3 u4 z0 z1 z2 z3 z4 lu lz
    have QR := Lib.hid (renew_any B t va b v m s V1 HT1.out HRL0.out (Nat.le_trans HBV.out HC1.out.size))
    go_upto_region 3 with (go_at_call 49; (with_reducible refine (QR.out).mono ?_); rintro e V2 ⟨rfl, ⟨va2, b2, v2, m2, ht2, hf2⟩, hc2⟩)
    have HT2 := Lib.hid ht2
    have HF2 := Lib.hid hf2
    have HC2 := Lib.hid hc2
    have HC02 : Hid (Ch (tbS t va b v m) w V2) := Lib.hid (((HC0.out.trans HC1.out).mono (fun g hg => absurd hg (not_nil g))).trans hc2)
    have KK2 := Lib.hid (KK1.out.ch hc2 (fun hg => by have := HNT.out _ hg; omega))
    have KX2 := Lib.hid (KX1.out.ch hc2 (fun hg => by have := HNT.out _ hg; omega))
    have HRL : Hid ((renewS s).R.length ≤ 1000000) := Lib.hid (by have := renR_len s.R; have := HRL0.out; show (renR s.R).length ≤ _; omega)
    have HBV : Hid (B ≤ V2.heap.size) := Lib.hid (Nat.le_trans HBW.out HC02.out.size)
    have HF02 : Hid (∀ g ∈ tbS t va2 b2 v2 m2, g ∈ tbS t va b v m ∨ w.heap.size ≤ g) := Lib.hid fun g hg => by
      rcases hf2 g hg with q | q
      · exact .inl q
      · right; have := (HC0.out.trans HC1.out).size; omega
    clear ht2 hf2 hc2
    have c2 : V2.cell? ⟨t, 2, none⟩ = some (.pointer (some ⟨b2, 0, none⟩)) := HT2.out.blk.cell 2
    have hbl := HT2.out.blk.lt
    have u0 : V2.cell? ⟨w.heap.size, 0, none⟩ = some (.int .i64 k.k) := KK2.out.cell 0
    have u1 : V2.cell? ⟨w.heap.size, 1, none⟩ = some (.int .i64 k.p) := KK2.out.cell 1
    have u2 : V2.cell? ⟨w.heap.size, 2, none⟩ = some (.int .i64 k.q) := KK2.out.cell 2
    have u3 : V2.cell? ⟨w.heap.size, 3, none⟩ = some (.string k.s) := KK2.out.cell 3
    have u4 : V2.cell? ⟨w.heap.size, 4, none⟩ = some (.int .i64 k.r) := KK2.out.cell 4
    have z0 : V2.cell? ⟨(w.heap.size + 1), 0, none⟩ = some (.int .i64 x.k) := KX2.out.cell 0
    have z1 : V2.cell? ⟨(w.heap.size + 1), 1, none⟩ = some (.int .i64 x.p) := KX2.out.cell 1
    have z2 : V2.cell? ⟨(w.heap.size + 1), 2, none⟩ = some (.int .i64 x.q) := KX2.out.cell 2
    have z3 : V2.cell? ⟨(w.heap.size + 1), 3, none⟩ = some (.string x.s) := KX2.out.cell 3
    have z4 : V2.cell? ⟨(w.heap.size + 1), 4, none⟩ = some (.int .i64 x.r) := KX2.out.cell 4
    have lu := KK2.out.lt
    have lz := KX2.out.lt
    have QS : Hid (∀ W', Ch [] V2 W' → Calls Try.prog 48 #[.pointer (some ⟨b2, 0, none⟩), .agg #[.int .i64 k.k, .int .i64 k.p, .int .i64 k.q, .string k.s, .int .i64 k.r], .agg #[.int .i64 x.k, .int .i64 x.p, .int .i64 x.q, .string x.s, .int .i64 x.r]] W' fun e w' => e = .returned (.int .i64 (errR k x)) ∧ (∃ v' m', OmR B b2 v' m' (setR ((renewS s)).R k x) w' ∧ ∀ g ∈ omS b2 v' m', g ∈ omS b2 v2 m2 ∨ W'.heap.size ≤ g) ∧ Ch (omS b2 v2 m2) W' w') := Lib.hid fun W' hc => set_R B b2 v2 m2 ((renewS s)).R k x W' (HT2.out.om.ch hc (fun g _ => not_nil g)) HRL.out (Nat.le_trans HBV.out hc.size)
    go_region_law (go_simp; go_at_call 48; (with_reducible refine (QS.out _ ?hc).mono ?_); (case hc => first | exact Ch.refl _ _ | exact (Ch.refl _ _).drew | exact (Ch.refl _ _).drewN _); rintro e w3 ⟨rfl, ⟨v3, m3, ho3, hf3⟩, hc3⟩; (first | have HE3 := Lib.hid (tb_setR HT2.out (Ch.refl [] _) ho3 hf3 hc3) | have HE3 := Lib.hid (tb_setR HT2.out ((Ch.refl [] _).drew) ho3 hf3 hc3) | have HE3 := Lib.hid (tb_setR HT2.out ((Ch.refl [] _).drewN _) ho3 hf3 hc3)); clear ho3 hf3 hc3)
    all_goals (
      go_wp2
      go_ret
      exact ⟨rfl, tb_chain HF02.out HC02.out HE3.out⟩))
theorem rest_any (B t : Nat) (va : Value) (b : Nat) (v m : Value) (s : TS) (w : World) (h : Tb B t va b v m s w) (k x : V5) (hR : s.R.length ≤ 1000000) (hBw : B ≤ w.heap.size) :
    Calls Try.prog 31 #[.pointer (some ⟨t, 0, none⟩), .agg #[.int .i64 k.k, .int .i64 k.p, .int .i64 k.q, .string k.s, .int .i64 k.r], .agg #[.int .i64 x.k, .int .i64 x.p, .int .i64 x.q, .string x.s, .int .i64 x.r]] w fun e w' => e = .returned (.int .i64 (errR k x)) ∧ TbSaid B t va b v m (restS s k x) w w' := by
  unfold restS
  cases hs : s.st with
  | false =>
    rw [if_neg (by simp)]
    have := rest_a B t va b v m s w h k x hR hBw hs
    rw [hs] at this
    exact this
  | true =>
    by_cases hx : x.k = 0
    · by_cases hg : (getR s.R k).k = 0
      · rw [if_neg (by simp [hg])]
        have := rest_c B t va b v m s w h k x hR hBw hs hx hg
        rw [hs] at this
        exact this
      · rw [if_pos ⟨rfl, hx, hg⟩]
        exact rest_d B t va b v m s w h k x hR hBw hs hx hg
    · rw [if_neg (fun q => hx q.2.1)]
      have := rest_b B t va b v m s w h k x hR hBw hs hx
      rw [hs] at this
      exact this
end Go.Proofs.Ytaaelhhiceildaa
namespace Go.Proofs.Ytaaelhhiceildaa
open Go.RowKit Go.Joins M1
set_option linter.unusedVariables false
theorem keyV_ok {n : Int} (h : vld n 1 = true) : keyV n = ⟨2, n, 1, ⟨#[]⟩, 0⟩ := by unfold keyV; rw [h]; rfl
theorem keyV_err {n : Int} (h : vld n 1 = true) : errR (keyV n) v5z = 0 := by
  rw [keyV_ok h]
  unfold errR
  have h1 : okV ⟨2, n, 1, ⟨#[]⟩, 0⟩ = true := by
    unfold okV validF
    simp [h, eqV]
  rw [if_neg (by simp [h1]), if_neg (by decide +kernel)]
/-- The list when a key is removed. -/
theorem rem_nums {R : List Rs} (hg : Good R) (k : V5) (he : errR k v5z = 0) : Good (setR R k v5z) ∧ (setR R k v5z).length = R.length ∧ ((getR R k).k ≠ 0 → lenR (setR R k v5z) + 1 = lenR R) ∧ lenR (setR R k v5z) ≤ lenR R := by
  obtain ⟨h1, h2, n1, n2, n3, n4⟩ := set_nums R hg k v5z he
  by_cases h0 : (getR R k).k = 0
  · obtain ⟨q1, q2⟩ := n2 rfl h0
    exact ⟨h1, q1, fun h => absurd h0 h, by omega⟩
  · obtain ⟨q1, q2⟩ := n1 rfl h0
    exact ⟨h1, q1, fun _ => q2, by omega⟩
def extK (s : TS) : V5 := keyV ((s.arr.length : Int) + 1)
def extL (s : TS) : V5 := keyV ((s.arr.length : Int) + 1 + 1)
/-- A value is appended, and its key leaves the map part. -/
def extA (s : TS) (x : V5) : TS := ⟨s.arr ++ [x], s.bl, setR s.R (extK s) v5z, s.st || decide ((nextR s.R (extK s)).err = 0)⟩
theorem extA_R (s : TS) (x : V5) : (extA s x).R = setR s.R (extK s) v5z := by simp only [extA]
theorem extA_bl (s : TS) (x : V5) : (extA s x).bl = s.bl := by simp only [extA]
def extV (s : TS) : V5 := getR (setR s.R (extK s) v5z) (extL s)
def extF : Nat → TS → V5 → TS
  | 0, s, _ => s
  | n + 1, s, x => if x.k = 0 then s else extF n (extA s x) (extV s)
def extE (s : TS) (x : V5) : TS := extF (lenR s.R + 2) s x
def extS (s : TS) (x : V5) : TS := if (extE s x).st = true ∧ 2 * lenR (extE s x).R ≤ (extE s x).R.length then renewS (extE s x) else extE s x
/-- While the values that follow are taken over. -/
structure Ex (s0 : TS) (x0 : V5) (f : Nat) (s : TS) (x : V5) : Prop where
  eq : extE s0 x0 = extF f s x
  fuel : f + s.arr.length = s0.arr.length + lenR s0.R + 2
  good : Good s.R
  len : s.R.length = s0.R.length
  bnd : x.k ≠ 0 → s.arr.length + 1 + lenR (setR s.R (extK s) v5z) ≤ s0.arr.length + lenR s0.R + 1
  bl : s.bl = s0.bl
theorem ex_zero (s : TS) (x : V5) (hg : Good s.R) (hv : vld ((s.arr.length : Int) + 1) 1 = true) : Ex s x (lenR s.R + 2) s x := by
  obtain ⟨h1, h2, h3, h4⟩ := rem_nums hg (extK s) (keyV_err hv)
  exact ⟨rfl, by omega, hg, rfl, fun _ => by omega, rfl⟩
theorem ex_step {s0 : TS} {x0 : V5} {f : Nat} {s : TS} {x : V5} (h : Ex s0 x0 f s x) (hx : x.k ≠ 0) (hv : vld ((s.arr.length : Int) + 1) 1 = true) (hv2 : vld ((s.arr.length : Int) + 1 + 1) 1 = true) : ∃ f', Ex s0 x0 f' (extA s x) (extV s) := by
  have hb := h.bnd hx
  have hf := h.fuel
  obtain ⟨n, rfl⟩ : ∃ n, f = n + 1 := ⟨f - 1, by omega⟩
  obtain ⟨h1, h2, h3, h4⟩ := rem_nums h.good (extK s) (keyV_err hv)
  have hl : (extA s x).arr.length = s.arr.length + 1 := by simp [extA]
  have hK : extK (extA s x) = extL s := by unfold extK extL; rw [hl]; rfl
  refine ⟨n, ?_, by rw [hl]; omega, by rw [extA_R]; exact h1, by rw [extA_R]; exact h2.trans h.len, fun hx2 => ?_, by rw [extA_bl]; exact h.bl⟩
  · rw [h.eq]; conv => lhs; unfold extF
    rw [if_neg hx]
  · rw [hl, hK, extA_R]
    obtain ⟨k1, k2, k3, k4⟩ := rem_nums h1 (extL s) (keyV_err hv2)
    have := k3 hx2
    omega
theorem ex_end {s0 : TS} {x0 : V5} {f : Nat} {s : TS} {x : V5} (h : Ex s0 x0 f s x) (hx : x.k = 0) : extE s0 x0 = s := by
  rw [h.eq]
  cases f with
  | zero => rfl
  | succ n => unfold extF; rw [if_pos hx]
theorem vld_small {n : Int} (h0 : 0 ≤ n) (h : n ≤ 3000000) : vld n 1 = true := by
  rw [vld_int, decide_eq_true_eq]
  omega
end Go.Proofs.Ytaaelhhiceildaa
