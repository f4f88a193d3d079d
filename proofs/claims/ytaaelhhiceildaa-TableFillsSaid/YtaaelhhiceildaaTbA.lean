/- Layer 13: tables in memory; New, Array, Len, integer, element, Get. -/
import Derived.Test.YtaaelhhiceildaaOdrN
import Derived.Test.YtaaelhhiceildaaOdrNx
import Derived.Test.YtaaelhhiceildaaOdrP
import Derived.Test.YtaaelhhiceildaaOdrR
import Derived.Deep.DeepCutAuto
import Derived.Deep.CutBlock
import Derived.BigQuiet
import Derived.Maps.AppendAt
import Derived.OwnWalk
import Derived.RegionTactic
import Derived.Deep.RegionLaw
import Derived.Deep.RegionHeld3
import Derived.Lib.ItoaWalk
namespace Go.Proofs.Ytaaelhhiceildaa
open Go.RowKit Go.Joins M1
set_option linter.unusedVariables false
theorem not_nil (g : Nat) : g ∉ ([] : List Nat) := by simp
/-- What a table holds: the array part, its blank beginning, the slots, whether they are stale. -/
structure TS where
  arr : List V5
  bl : Nat
  R : List Rs
  st : Bool
structure Tb (B t : Nat) (va : Value) (b : Nat) (v m : Value) (s : TS) (w : World) : Prop where
  blk : Blk 58 t #[va, .int .i64 (s.bl : Int), .pointer (some ⟨b, 0, none⟩), .bool s.st] w
  lo : B ≤ t
  row : w.ownsRow B 26 5 va s.arr.length (s.arr.flatMap vC)
  om : OmR B b v m s.R w
  apt : t ∉ omS b v m
  apr : ∀ g ∈ Go.Proofs.Ytaaelhhiceildaa.ob va, g ≠ t ∧ g ∉ omS b v m
  bnd : s.bl ≤ s.arr.length
def tbS (t : Nat) (va : Value) (b : Nat) (v m : Value) : List Nat := t :: (Go.Proofs.Ytaaelhhiceildaa.ob va ++ omS b v m)
theorem Tb.ch {B t : Nat} {va : Value} {b : Nat} {v m : Value} {s : TS} {w w' : World} {S : List Nat} (h : Tb B t va b v m s w) (hc : Ch S w w') (hS : ∀ g ∈ tbS t va b v m, g ∉ S) : Tb B t va b v m s w' :=
  ⟨h.blk.ch hc (hS t (by simp [tbS])), h.lo, hc.ownB h.row (fun g hg => hS g (by simp [tbS, hg])), h.om.ch hc (fun g hg => hS g (by simp [tbS, hg])), h.apt, h.apr, h.bnd⟩
theorem Tb.ch0 {B t : Nat} {va : Value} {b : Nat} {v m : Value} {s : TS} {w w' : World} (h : Tb B t va b v m s w) (hc : Ch [] w w') : Tb B t va b v m s w' := h.ch hc (fun g _ => not_nil g)
theorem Tb.below {B t : Nat} {va : Value} {b : Nat} {v m : Value} {s : TS} {w w' : World} (h : Tb B t va b v m s w) (hc : Below w.heap.size w w') : Tb B t va b v m s w' := h.ch0 (Ch.of_below hc)
theorem Tb.lt {B t : Nat} {va : Value} {b : Nat} {v m : Value} {s : TS} {w : World} (h : Tb B t va b v m s w) : ∀ g ∈ tbS t va b v m, B ≤ g ∧ g < w.heap.size := by
  intro g hg
  simp only [tbS, List.mem_cons, List.mem_append] at hg
  rcases hg with rfl | hg | hg
  · exact ⟨h.lo, h.blk.lt⟩
  · exact own_lo h.row hg
  · exact h.om.lt g hg
theorem Tb.form {B t : Nat} {va : Value} {b : Nat} {v m : Value} {s : TS} {w : World} (h : Tb B t va b v m s w) : ∃ p cap, va = .slice p s.arr.length cap ∧ (0 < s.arr.length → ∃ g, p = some ⟨g, 0, none⟩ ∧ g < w.heap.size ∧ (∀ j, w.frozen? ⟨g, j, none⟩ = false) ∧ ∀ i (hi : i < s.arr.length) j, j < 5 → w.cell? ⟨g, i * 5 + j, none⟩ = (vC s.arr[i])[j]?) := by
  rcases Joins.ownsRow_forms h.row with ⟨h1, h2⟩ | ⟨g, cap, h1⟩
  · exact ⟨none, 0, by rw [h1, h2], fun h0 => by omega⟩
  · refine ⟨some ⟨g, 0, none⟩, cap, h1, fun _ => ⟨g, rfl, (own_lo h.row (mem_ob.2 (by rw [h1]; rfl))).2, fun j => ?_, fun i hi j hj => ?_⟩⟩
    · have := h.row; rw [h1] at this; exact this.frozenAt j
    · have := h.row
      rw [h1] at this
      rw [this.cellAt (i * 5 + j) (by omega), flat_at vC 5 vC_len _ i j hi hj]
/-- What a call that writes a table leaves. -/
def TbSaid (B t : Nat) (va : Value) (b : Nat) (v m : Value) (s' : TS) (w w' : World) : Prop := (∃ va' b' v' m', Tb B t va' b' v' m' s' w' ∧ ∀ g ∈ tbS t va' b' v' m', g ∈ tbS t va b v m ∨ w.heap.size ≤ g) ∧ Ch (tbS t va b v m) w w'
theorem tb_0 {B t : Nat} {va : Value} {b : Nat} {v m : Value} {s : TS} {w w' : World} (h : Tb B t va b v m s w) (hc : Ch [] w w') : TbSaid B t va b v m s w w' :=
  ⟨⟨va, b, v, m, h.ch0 hc, fun g hg => .inl hg⟩, hc.mono (fun g hg => absurd hg (not_nil g))⟩
theorem TbSaid.trans {B t : Nat} {va : Value} {b : Nat} {v m : Value} {s1 s2 : TS} {w w1 w2 : World} (h : TbSaid B t va b v m s1 w w1) (k : ∀ va' b' v' m', Tb B t va' b' v' m' s1 w1 → TbSaid B t va' b' v' m' s2 w1 w2) : TbSaid B t va b v m s2 w w2 := by
  obtain ⟨⟨va', b', v', m', h1, h2⟩, h3⟩ := h
  obtain ⟨⟨va2, b2, v2, m2, k1, k2⟩, k3⟩ := k va' b' v' m' h1
  refine ⟨⟨va2, b2, v2, m2, k1, fun g hg => ?_⟩, ⟨k3.os.trans h3.os, k3.tape.trans h3.tape, k3.output.trans h3.output, Nat.le_trans h3.size k3.size, fun g q1 q2 => (k3.block g (Nat.lt_of_lt_of_le q1 h3.size) (fun e => ?_)).trans (h3.block g q1 q2)⟩⟩
  · rcases k2 g hg with q | q
    · exact h2 g q
    · right; have := h3.size; omega
  · rcases h2 g e with q | q
    · exact q2 q
    · omega
set_option maxHeartbeats 1000000 in
theorem tnew_any (B : Nat) (w : World) (hB : B ≤ w.heap.size) :
    Calls Try.prog 11 #[] w fun e w' => ∃ t b, e = .returned (.pointer (some ⟨t, 0, none⟩)) ∧ Tb B t (.slice none 0 0) b (.slice none 0 0) (.map none) ⟨[], 0, [], false⟩ w' ∧ w.heap.size ≤ t ∧ Below w.heap.size w w' := by
  have QN := Lib.hid (new_R B w hB)
  go_enter Try.func11, Try.ntmps11
  go_wp2_with (go_at_call 25; (with_reducible refine (QN.out).mono ?_); rintro e w1 ⟨b, rfl, ho, hb1, hbel⟩)
  go_ret
  have hl := (ho.lt b (by simp [omS])).2
  refine ⟨w1.heap.size, b, rfl, ⟨Blk.new _ _ _ _ rfl, Nat.le_trans hB hbel.size, World.ownsRow_nil _ _ _ _, ho.ch ((Ch.refl [] w1).alloc _) (fun g _ => not_nil g), fun hg => ?_, fun g hg => by simp [Go.Proofs.Ytaaelhhiceildaa.ob, Value.ownBlock] at hg, Nat.le_refl _⟩, hbel.size, hbel.alloc hbel.size _⟩
  have := (ho.lt _ hg).2
  omega
theorem tarr_any (B t : Nat) (va : Value) (b : Nat) (v m : Value) (s : TS) (w : World) (h : Tb B t va b v m s w) :
    Calls Try.prog 17 #[.pointer (some ⟨t, 0, none⟩)] w fun e w' => e = .returned (.int .i64 (s.arr.length : Int)) ∧ w = w' := by
  obtain ⟨p, cap, rfl, _⟩ := h.form
  have c0 : w.cell? ⟨t, 0, none⟩ = some (.slice p s.arr.length cap) := h.blk.cell 0
  have hb := h.blk.lt
  clear h
  go_enter Try.func17, Try.ntmps17
  go_wp2
  go_ret
  exact ⟨rfl, rfl⟩
theorem tlen_any (B t : Nat) (va : Value) (b : Nat) (v m : Value) (s : TS) (w : World) (h : Tb B t va b v m s w) :
    Calls Try.prog 19 #[.pointer (some ⟨t, 0, none⟩)] w fun e w' => e = .returned (.int .i64 (s.arr.length : Int)) ∧ w = w' := by
  have Q := Lib.hid (tarr_any B t va b v m s w h)
  clear h
  go_enter Try.func19, Try.ntmps19
  go_wp2_with (go_at_call 17; (with_reducible refine (Q.out).mono ?_); rintro e w1 ⟨rfl, rfl⟩)
  go_ret
  exact ⟨rfl, rfl⟩
/-- An integer as a key. -/
def keyV (n : Int) : V5 := if vld n 1 then ⟨2, n, 1, ⟨#[]⟩, 0⟩ else v5z
theorem ofInt_any (n : Int) (w : World) : Calls Try.prog 29 #[.int .i64 n] w fun e w' => e = .returned (.agg #[.int .i64 (keyV n).k, .int .i64 (keyV n).p, .int .i64 (keyV n).q, .string (keyV n).s, .int .i64 (keyV n).r]) ∧ Below w.heap.size w w' := by
  cases h : vld n 1 with
  | true =>
    have := ofInt_ok n w h
    unfold keyV; rw [h]; exact this
  | false =>
    have := ofInt_no n w h
    unfold keyV; rw [h]; exact this
theorem keepB {W6 V V' : World} (h : (∀ c o, c < W6.heap.size → V.cell? ⟨c, o, none⟩ = W6.cell? ⟨c, o, none⟩) ∧ Below W6.heap.size W6 V) (hb : Below V.heap.size V V') :
    (∀ c o, c < W6.heap.size → V'.cell? ⟨c, o, none⟩ = W6.cell? ⟨c, o, none⟩) ∧ Below W6.heap.size W6 V' := by
  obtain ⟨h1, h3⟩ := h
  exact ⟨fun c o hc => (hb.cell (p := ⟨c, o, none⟩) (Nat.lt_of_lt_of_le hc h3.size)).trans (h1 c o hc), h3.trans (hb.mono h3.size)⟩
def isInt (k : V5) : Bool := decide (k = keyV k.p)
set_option maxHeartbeats 4000000 in
theorem integer_any (k : V5) (w : World) : Calls Try.prog 39 #[.agg #[.int .i64 k.k, .int .i64 k.p, .int .i64 k.q, .string k.s, .int .i64 k.r]] w fun e w' => e = .returned (.tuple #[.int .i64 k.p, .bool (isInt k)]) ∧ Below w.heap.size w w' := by
  have K0 : Hid (Blk 26 w.heap.size #[.int .i64 k.k, .int .i64 k.p, .int .i64 k.q, .string k.s, .int .i64 k.r] (w.alloc (.cells #[.int .i64 k.k, .int .i64 k.p, .int .i64 k.q, .string k.s, .int .i64 k.r] 26))) := Lib.hid (Blk.new w _ _ _ rfl)
  have HC0 : Hid (Ch [] w (w.alloc (.cells #[.int .i64 k.k, .int .i64 k.p, .int .i64 k.q, .string k.s, .int .i64 k.r] 26))) := Lib.hid ((Ch.refl [] w).alloc _)
  have Q := Lib.hid fun W => ofInt_any k.p W
  go_enter Try.func39, Try.ntmps39
  go_upto_region 1 with fail
  generalize w.alloc (.cells #[.int .i64 k.k, .int .i64 k.p, .int .i64 k.q, .string k.s, .int .i64 k.r] 26) = w0 at *
  have EQ : ∀ W, (binOp .eql 26 (.agg #[.int .i64 k.k, .int .i64 k.p, .int .i64 k.q, .string k.s, .int .i64 k.r]) (.agg #[.int .i64 (keyV k.p).k, .int .i64 (keyV k.p).p, .int .i64 (keyV k.p).q, .string (keyV k.p).s, .int .i64 (keyV k.p).r])).run Try.prog W = .ok (.bool (isInt k)) W := fun W => eq_v5 k (keyV k.p) W
  generalize keyV k.p = y at *
  have u0 : w0.cell? ⟨w.heap.size, 0, none⟩ = some (.int .i64 k.k) := K0.out.cell 0
  have u1 : w0.cell? ⟨w.heap.size, 1, none⟩ = some (.int .i64 k.p) := K0.out.cell 1
  have u2 : w0.cell? ⟨w.heap.size, 2, none⟩ = some (.int .i64 k.q) := K0.out.cell 2
  have u3 : w0.cell? ⟨w.heap.size, 3, none⟩ = some (.string k.s) := K0.out.cell 3
  have u4 : w0.cell? ⟨w.heap.size, 4, none⟩ = some (.int .i64 k.r) := K0.out.cell 4
  have lu := K0.out.lt
  have hW := Below.refl w0.heap.size w0
  have hcc : ∀ c o, c < w0.heap.size → w0.drew.cell? ⟨c, o, none⟩ = w0.cell? ⟨c, o, none⟩ := fun _ _ _ => rfl
  go_region_held3 (fun w' => (∀ c o, c < w0.heap.size → w'.cell? ⟨c, o, none⟩ = w0.cell? ⟨c, o, none⟩) ∧ Below w0.heap.size w0 w') (first | assumption | exact ⟨hcc, hW.drew⟩ | exact keepB (by assumption) hb1) (first | (go_at_call 29; (with_reducible refine (Q.out _).mono ?_); rintro e w1 ⟨rfl, hb1⟩))
  all_goals (
    have hS := ‹_ ∧ Below _ _ _›
    go_wp2
    go_ret2
    exact ⟨rfl, (HC0.out.trans (Ch.of_below hS.2)).below⟩)
/-- The place of a key in the array part, from 1 on. -/
def elF (n : Nat) (k : V5) : Option Nat := if isInt k = true ∧ 1 ≤ k.p ∧ k.p ≤ (n : Int) then some k.p.toNat else none
set_option maxHeartbeats 4000000 in
theorem element_some (B t : Nat) (va : Value) (b : Nat) (v m : Value) (s : TS) (w : World) (h : Tb B t va b v m s w) (k : V5) (i : Nat) (he : elF s.arr.length k = some i) :
    Calls Try.prog 27 #[.pointer (some ⟨t, 0, none⟩), .agg #[.int .i64 k.k, .int .i64 k.p, .int .i64 k.q, .string k.s, .int .i64 k.r]] w fun e w' => e = .returned (.tuple #[.int .i64 (i : Int), .bool true]) ∧ Below w.heap.size w w' := by
  unfold elF at he
  split at he
  · rename_i hc
    obtain ⟨h1, h2, h3⟩ := hc
    simp only [Option.some.injEq] at he
    have hi : k.p = (i : Int) := by omega
    obtain ⟨p, cap, rfl, _⟩ := h.form
    have H := Lib.hid h
    have Q : Hid (∀ W, Calls Try.prog 39 #[.agg #[.int .i64 k.k, .int .i64 k.p, .int .i64 k.q, .string k.s, .int .i64 k.r]] W fun e w' => e = .returned (.tuple #[.int .i64 (i : Int), .bool true]) ∧ Below W.heap.size W w') := Lib.hid fun W => (integer_any k W).mono fun e w' hh => ⟨by rw [hh.1, h1, hi], hh.2⟩
    have h2' : ¬ (i : Int) < 1 := by omega
    have h3' : ¬ (s.arr.length : Int) < (i : Int) := by omega
    clear h h1 h2 h3 he hi
    go_enter Try.func27, Try.ntmps27
    go_wp2_with (go_at_call 39; (with_reducible refine (Q.out _).mono ?_); rintro e w1 ⟨rfl, hb1⟩; have HC1 : Hid (Ch [] w w1) := Lib.hid (((Ch.refl [] w).alloc _).trans (Ch.of_below hb1)); have c0 : w1.cell? ⟨t, 0, none⟩ = some (.slice p s.arr.length cap) := (H.out.ch0 HC1.out).blk.cell 0; have hbl := (H.out.ch0 HC1.out).blk.lt; clear hb1)
    go_ret2
    exact ⟨rfl, HC1.out.below⟩
  · cases he
set_option maxHeartbeats 4000000 in
theorem element_none (B t : Nat) (va : Value) (b : Nat) (v m : Value) (s : TS) (w : World) (h : Tb B t va b v m s w) (k : V5) (he : elF s.arr.length k = none) :
    Calls Try.prog 27 #[.pointer (some ⟨t, 0, none⟩), .agg #[.int .i64 k.k, .int .i64 k.p, .int .i64 k.q, .string k.s, .int .i64 k.r]] w fun e w' => e = .returned (.tuple #[.int .i64 0, .bool false]) ∧ Below w.heap.size w w' := by
  unfold elF at he
  split at he
  · cases he
  · rename_i hc
    clear he
    obtain ⟨p, cap, rfl, _⟩ := h.form
    have H := Lib.hid h
    have Q := Lib.hid fun W => integer_any k W
    clear h
    cases h1 : isInt k with
    | false =>
      clear hc
      rw [h1] at Q
      go_enter Try.func27, Try.ntmps27
      go_wp2_with (go_at_call 39; (with_reducible refine (Q.out _).mono ?_); rintro e w1 ⟨rfl, hb1⟩; have HC1 : Hid (Ch [] w w1) := Lib.hid (((Ch.refl [] w).alloc _).trans (Ch.of_below hb1)); have c0 : w1.cell? ⟨t, 0, none⟩ = some (.slice p s.arr.length cap) := (H.out.ch0 HC1.out).blk.cell 0; have hbl := (H.out.ch0 HC1.out).blk.lt; clear hb1)
      go_ret2
      exact ⟨rfl, HC1.out.below⟩
    | true =>
      rw [h1] at Q
      by_cases h2 : k.p < 1
      · clear hc h1
        go_enter Try.func27, Try.ntmps27
        go_wp2_with (go_at_call 39; (with_reducible refine (Q.out _).mono ?_); rintro e w1 ⟨rfl, hb1⟩; have HC1 : Hid (Ch [] w w1) := Lib.hid (((Ch.refl [] w).alloc _).trans (Ch.of_below hb1)); have c0 : w1.cell? ⟨t, 0, none⟩ = some (.slice p s.arr.length cap) := (H.out.ch0 HC1.out).blk.cell 0; have hbl := (H.out.ch0 HC1.out).blk.lt; clear hb1)
        go_ret2
        exact ⟨rfl, HC1.out.below⟩
      · have h3 : (s.arr.length : Int) < k.p := by
          rcases Int.lt_or_le (s.arr.length : Int) k.p with q | q
          · exact q
          · exact absurd ⟨h1, by omega, q⟩ hc
        clear hc h1
        go_enter Try.func27, Try.ntmps27
        go_wp2_with (go_at_call 39; (with_reducible refine (Q.out _).mono ?_); rintro e w1 ⟨rfl, hb1⟩; have HC1 : Hid (Ch [] w w1) := Lib.hid (((Ch.refl [] w).alloc _).trans (Ch.of_below hb1)); have c0 : w1.cell? ⟨t, 0, none⟩ = some (.slice p s.arr.length cap) := (H.out.ch0 HC1.out).blk.cell 0; have hbl := (H.out.ch0 HC1.out).blk.lt; clear hb1)
        go_ret2
        exact ⟨rfl, HC1.out.below⟩
end Go.Proofs.Ytaaelhhiceildaa
