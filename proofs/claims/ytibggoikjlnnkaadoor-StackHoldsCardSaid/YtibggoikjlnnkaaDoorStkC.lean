/- Layer 17: what writes the code's stack. -/
import Derived.Test.YtibggoikjlnnkaaDoorStkB
import Derived.Laws.AppendOwnNone
namespace Go.Proofs.YtibggoikjlnnkaaDoor
open Go.RowKit Go.Joins M1
set_option linter.unusedVariables false
/-- Values are appended to a row. -/
theorem append_vals {ops : Array Oper} {rest : List Oper} {o : Oper} {a : Act} {Q : Exit → Act → World → Prop} {W : World} (hgd : o.guard = none) (s x : Operand)
    (ho : o.op = .call { callee := .builtin .append, args := #[s, x], argTypes := #[37, 37] }) (B : Nat)
    (v : Value) (l1 : List V5) (hs : a.eval s = v) (hown : W.ownsRow B 25 5 v l1.length (l1.flatMap vC))
    (A : Option Addr) (m c : Nat) (l2 : List V5) (hx : a.eval x = .slice A m c) (ha : ValsA W (.slice A m c) l2) (hc : A = none → c = 0) (hn : l1.length + l2.length ≤ 1000000) (hB : B ≤ W.heap.size)
    (h : ∀ v' W', W'.ownsRow B 25 5 v' (l1 ++ l2).length ((l1 ++ l2).flatMap vC) → Ch (ob v) W W' → (∀ g ∈ ob v', g ∈ ob v ∨ W.heap.size ≤ g) → wpList Tryd.prog ops Q rest (a.put o.dst v') W') : wpList Tryd.prog ops Q (o :: rest) a W := by
  obtain ⟨i0, hi0, jz0, jz1, jz2⟩ := info_parts info_val
  have hm := ha.len
  subst hm
  rw [List.flatMap_append, List.length_append] at h
  cases A with
  | none =>
    have h0 : l2 = [] := by
      obtain ⟨p', c', e, h2⟩ := ha.form
      injection e with e1 e2 e3
      rcases l2 with _ | ⟨y, l⟩
      · rfl
      · obtain ⟨_, _, e, _⟩ := h2 (by simp)
        rw [← e1] at e; cases e
    subst h0
    have hc0 := hc rfl
    subst hc0
    refine wpList_append_own_none hgd s x 37 ho B 25 i0 5 Tryd.underlying37 hi0 v l1.length _ hs hown hx ?_
    exact h v W (by simpa using hown) (Ch.refl _ _) (fun g hg => .inl hg)
  | some ad =>
    refine wpList_append_own_at _ hgd s x 37 ho B 25 i0 _ 5 48 Tryd.underlying37 hi0 jz0 jz1 jz2 rfl (by decide) v l1.length _ hs hown ad l2.length c (l2.flatMap vC) hx (flat5_len l2) ha.src (vC_onel _) (by unfold maxLen; omega) (by omega) hB ?_
    intro v' W' ho' hg _ hl
    refine h v' W' ho' (Ch.of_grown hg (fun y e => mem_ob.2 e)) (fun g hg2 => ?_)
    rw [mem_ob] at hg2 ⊢
    rcases hl with q | q
    · left; rw [← q]; exact hg2
    · right; rw [q] at hg2; injection hg2 with hg2; omega
/-- A new row is laid in. -/
theorem Sk.laid {T : TypeId} {B t lim : Nat} {va va' : Value} {l l' : List V5} {w W : World} (hT : T ≠ 25) (h : Sk T B t va l lim w) (hc : Ch (ob va) w W) (hr : W.ownsRow B 25 5 va' l'.length (l'.flatMap vC)) (hl : l'.length ≤ lim) (hg : ∀ g ∈ ob va', g ∈ ob va ∨ w.heap.size ≤ g) :
    SkSaid T B t va l' lim w (W.setCell ⟨t, 0, none⟩ va') := by
  have hb := h.blk.ch hc (fun e => h.ap t e rfl)
  have hap := ob_blk hr hb hT
  have hs : Ch [t] W (W.setCell ⟨t, 0, none⟩ va') := (Ch.refl [t] W).set t 0 _ (.inl (by simp))
  refine ⟨⟨va', ⟨hb.set 0 _, h.lo, hs.ownB hr (fun g q => by simpa using hap g q), hap, hl, h.top⟩, fun g q => ?_⟩, (hc.mono (fun g q => by simp [skS, q])).trans (hs.mono (fun g q => by simp at q; subst q; simp [skS]))⟩
  simp only [skS, List.mem_cons] at q ⊢
  rcases q with q | q
  · exact .inl (.inl q)
  · rcases hg g q with q | q
    · exact .inl (.inr q)
    · exact .inr q
/-- Values are laid anew within the row. -/
theorem Sk.patched {T : TypeId} {B t lim g cap : Nat} {l l' : List V5} {w W : World} (h : Sk T B t (.slice (some ⟨g, 0, none⟩) l.length cap) l lim w) (hc : Ch [g] w W) (hl : l'.length = l.length) (hr : W.ownsRow B 25 5 (.slice (some ⟨g, 0, none⟩) l.length cap) l.length (l'.flatMap vC)) :
    Sk T B t (.slice (some ⟨g, 0, none⟩) l'.length cap) l' lim W :=
  ⟨by rw [hl]; exact h.blk.ch hc (by simp; exact fun e => h.ap g (mem_ob.2 rfl) e.symm), h.lo, by rw [hl]; exact hr, fun y hy => h.ap y ((ob_len y).1 hy), by rw [hl]; exact h.le, h.top⟩
theorem sk_patch {T : TypeId} {B t lim g cap : Nat} {l l' : List V5} {w W : World} (h : Sk T B t (.slice (some ⟨g, 0, none⟩) l.length cap) l lim w) (hc : Ch [g] w W) (hl : l'.length = l.length) (hr : W.ownsRow B 25 5 (.slice (some ⟨g, 0, none⟩) l.length cap) l.length (l'.flatMap vC)) :
    SkSaid T B t (.slice (some ⟨g, 0, none⟩) l.length cap) l' lim w W :=
  ⟨⟨_, h.patched hc hl hr, fun y hy => .inl (by simp only [skS, List.mem_cons] at hy ⊢; rcases hy with q | q; exact .inl q; exact .inr ((ob_len y).1 q))⟩, hc.mono (fun y hy => by simp at hy; subst hy; simp [skS, Go.Proofs.YtibggoikjlnnkaaDoor.ob, Value.ownBlock])⟩
theorem vals_one (x : V5) (W : World) : ValsA (W.alloc (.cells #[.int .i64 x.k, .int .i64 x.p, .int .i64 x.q, .string x.s, .int .i64 x.r] 25)) (.slice (some ⟨W.heap.size, 0, none⟩) 1 1) [x] := by
  refine ⟨some ⟨W.heap.size, 0, none⟩, 1, rfl, fun _ => ⟨W.heap.size, 0, rfl, by simp, fun j m hj hm => ?_⟩⟩
  obtain rfl : j = 0 := by simpa using hj
  have := Blk.cell (Blk.new W 25 #[.int .i64 x.k, .int .i64 x.p, .int .i64 x.q, .string x.s, .int .i64 x.r] _ rfl) m
  simp only [Nat.zero_mul, Nat.zero_add]; rw [this]
  simp [vC]
set_option maxHeartbeats 1000000 in
theorem push_any (B t : Nat) (va : Value) (l : List V5) (lim : Nat) (w : World) (h : Sk 39 B t va l lim w) (A : Option Addr) (m c : Nat) (l2 : List V5) (ha : ValsA w (.slice A m c) l2) (hc : A = none → c = 0) (hn : l.length + l2.length ≤ lim) (hB : B ≤ w.heap.size) :
    Calls Tryd.prog 18 #[.pointer (some ⟨t, 0, none⟩), .slice A m c] w fun e w' => e = .returned (.tuple #[]) ∧ SkSaid 39 B t va (l ++ l2) lim w w' := by
  obtain ⟨p, cap, rfl⟩ := h.form1
  have c0 : w.cell? ⟨t, 0, none⟩ = some (.slice p l.length cap) := h.blk.cell 0
  have hb := h.blk.lt
  have H := Lib.hid h
  have hA := Lib.hid ha
  have htop := h.top
  have hN2 : Hid (l.length + l2.length ≤ 1000000 ∧ (l ++ l2).length ≤ lim) := Lib.hid ⟨by omega, by simp; omega⟩
  clear hn
  clear h ha
  go_enter Tryd.func18, Tryd.ntmps18
  go_wp2_with (at_builtin; refine append_vals rfl _ _ rfl B _ l rfl H.out.row A m c l2 rfl hA.out hc hN2.out.1 hB ?_)
  intro v' W' ho' hc' hg'
  obtain ⟨p2, c2, rfl⟩ := ownB_form ho'
  have hbt := H.out.blk.ch hc' (fun e => H.out.ap t e rfl)
  have d0 := hbt.cell 0
  have f0 := hbt.fz 0
  have hbl := hbt.lt
  have HS := Lib.hid (H.out.laid (l' := l ++ l2) (by decide) hc' (by rw [List.length_append, List.flatMap_append]; exact ho') hN2.out.2 hg')
  clear hbt ho' hc' hg'
  go_wp2
  go_end0
  exact ⟨rfl, HS.out⟩
def pushE (l : List V5) (lim : Nat) (x : V5) : Int := if okV x = false then 2 else if l.length = lim then 17 else 0
def pushL (l : List V5) (lim : Nat) (x : V5) : List V5 := if pushE l lim x = 0 then l ++ [x] else l
theorem spush_nil (x : V5) (w : World) : Calls Tryd.prog 6 #[.pointer none, .agg #[.int .i64 x.k, .int .i64 x.p, .int .i64 x.q, .string x.s, .int .i64 x.r]] w fun e w' => e = .returned (.int .i64 1) ∧ Ch [] w w' := by
  go_enter Tryd.func6, Tryd.ntmps6
  go_wp2
  go_ret
  exact ⟨rfl, (Ch.refl [] w).alloc _⟩
set_option maxHeartbeats 1000000 in
theorem push_bad (B t : Nat) (va : Value) (l : List V5) (lim : Nat) (w : World) (h : Sk 39 B t va l lim w) (x : V5) (hB : B ≤ w.heap.size) (hx1 : okV x = false) :
    Calls Tryd.prog 6 #[.pointer (some ⟨t, 0, none⟩), .agg #[.int .i64 x.k, .int .i64 x.p, .int .i64 x.q, .string x.s, .int .i64 x.r]] w fun e w' => e = .returned (.int .i64 2) ∧ SkSaid 39 B t va l lim w w' := by
  have h0 := h.ch0 ((Ch.refl [] w).alloc (.cells #[.int .i64 x.k, .int .i64 x.p, .int .i64 x.q, .string x.s, .int .i64 x.r] 25))
  have H := Lib.hid h
  obtain ⟨p, cap, rfl⟩ := h.form1
  have HB : Hid (Blk 25 w.heap.size #[.int .i64 x.k, .int .i64 x.p, .int .i64 x.q, .string x.s, .int .i64 x.r] (w.alloc (.cells #[.int .i64 x.k, .int .i64 x.p, .int .i64 x.q, .string x.s, .int .i64 x.r] 25))) := Lib.hid (Blk.new w _ _ _ rfl)
  have HC : Hid (Ch [] w (w.alloc (.cells #[.int .i64 x.k, .int .i64 x.p, .int .i64 x.q, .string x.s, .int .i64 x.r] 25))) := Lib.hid ((Ch.refl [] w).alloc _)
  have QV : Hid (∀ W, Calls Tryd.prog 7 #[.agg #[.int .i64 x.k, .int .i64 x.p, .int .i64 x.q, .string x.s, .int .i64 x.r]] W fun e w' => e = .returned (.bool false) ∧ Below W.heap.size W w') := Lib.hid fun W => by rw [← (show okV x = false from hx1)]; exact valid5 x.k x.p x.q x.s x.r W
  have htop := h.top
  have hle := h.le
  clear h h0 hx1
  go_enter Tryd.func6, Tryd.ntmps6
  go_upto_region 3 with fail
  generalize (w.alloc (.cells #[.int .i64 x.k, .int .i64 x.p, .int .i64 x.q, .string x.s, .int .i64 x.r] 25)) = w0 at *
  have u0 : w0.cell? ⟨w.heap.size, 0, none⟩ = some (.int .i64 x.k) := HB.out.cell 0
  have u1 : w0.cell? ⟨w.heap.size, 1, none⟩ = some (.int .i64 x.p) := HB.out.cell 1
  have u2 : w0.cell? ⟨w.heap.size, 2, none⟩ = some (.int .i64 x.q) := HB.out.cell 2
  have u3 : w0.cell? ⟨w.heap.size, 3, none⟩ = some (.string x.s) := HB.out.cell 3
  have u4 : w0.cell? ⟨w.heap.size, 4, none⟩ = some (.int .i64 x.r) := HB.out.cell 4
  have lu := HB.out.lt
  go_wp2_with (go_at_call 7; (with_reducible refine (QV.out _).mono ?_); rintro e w1 ⟨rfl, hb1⟩; have HC1 : Hid (Ch [] w w1) := Lib.hid (HC.out.trans (Ch.of_below hb1)); have HB1 := Lib.hid (HB.out.below hb1); clear hb1)
  go_ret
  exact ⟨rfl, sk_0 H.out HC1.out⟩
set_option maxHeartbeats 1000000 in
theorem push_full (B t : Nat) (va : Value) (l : List V5) (lim : Nat) (w : World) (h : Sk 39 B t va l lim w) (x : V5) (hB : B ≤ w.heap.size) (hx1 : okV x = true) (hf : l.length = lim) :
    Calls Tryd.prog 6 #[.pointer (some ⟨t, 0, none⟩), .agg #[.int .i64 x.k, .int .i64 x.p, .int .i64 x.q, .string x.s, .int .i64 x.r]] w fun e w' => e = .returned (.int .i64 17) ∧ SkSaid 39 B t va l lim w w' := by
  have h0 := h.ch0 ((Ch.refl [] w).alloc (.cells #[.int .i64 x.k, .int .i64 x.p, .int .i64 x.q, .string x.s, .int .i64 x.r] 25))
  have H := Lib.hid h
  obtain ⟨p, cap, rfl⟩ := h.form1
  have HB : Hid (Blk 25 w.heap.size #[.int .i64 x.k, .int .i64 x.p, .int .i64 x.q, .string x.s, .int .i64 x.r] (w.alloc (.cells #[.int .i64 x.k, .int .i64 x.p, .int .i64 x.q, .string x.s, .int .i64 x.r] 25))) := Lib.hid (Blk.new w _ _ _ rfl)
  have HC : Hid (Ch [] w (w.alloc (.cells #[.int .i64 x.k, .int .i64 x.p, .int .i64 x.q, .string x.s, .int .i64 x.r] 25))) := Lib.hid ((Ch.refl [] w).alloc _)
  have QV : Hid (∀ W, Calls Tryd.prog 7 #[.agg #[.int .i64 x.k, .int .i64 x.p, .int .i64 x.q, .string x.s, .int .i64 x.r]] W fun e w' => e = .returned (.bool true) ∧ Below W.heap.size W w') := Lib.hid fun W => by rw [← (show okV x = true from hx1)]; exact valid5 x.k x.p x.q x.s x.r W
  have htop := h.top
  have hle := h.le
  clear h h0 hx1
  go_enter Tryd.func6, Tryd.ntmps6
  go_upto_region 3 with fail
  generalize (w.alloc (.cells #[.int .i64 x.k, .int .i64 x.p, .int .i64 x.q, .string x.s, .int .i64 x.r] 25)) = w0 at *
  have u0 : w0.cell? ⟨w.heap.size, 0, none⟩ = some (.int .i64 x.k) := HB.out.cell 0
  have u1 : w0.cell? ⟨w.heap.size, 1, none⟩ = some (.int .i64 x.p) := HB.out.cell 1
  have u2 : w0.cell? ⟨w.heap.size, 2, none⟩ = some (.int .i64 x.q) := HB.out.cell 2
  have u3 : w0.cell? ⟨w.heap.size, 3, none⟩ = some (.string x.s) := HB.out.cell 3
  have u4 : w0.cell? ⟨w.heap.size, 4, none⟩ = some (.int .i64 x.r) := HB.out.cell 4
  have lu := HB.out.lt
  go_upto_region 5 with (go_at_call 7; (with_reducible refine (QV.out _).mono ?_); rintro e w1 ⟨rfl, hb1⟩; have HC1 : Hid (Ch [] w w1) := Lib.hid (HC.out.trans (Ch.of_below hb1)); have HB1 := Lib.hid (HB.out.below hb1); clear hb1)
  have c0 : w1.cell? ⟨t, 0, none⟩ = some (.slice p l.length cap) := (H.out.ch0 HC1.out).blk.cell 0
  have c1 : w1.cell? ⟨t, 1, none⟩ = some (.int .i64 (lim : Int)) := (H.out.ch0 HC1.out).blk.cell 1
  have hbt := (H.out.ch0 HC1.out).blk.lt
  have hq : (l.length : Int) = (lim : Int) := by omega
  clear hf
  go_region
  go_wp2
  go_ret
  exact ⟨rfl, sk_0 H.out (HC1.out.trans (Ch.refl _ _).drew)⟩
set_option maxHeartbeats 1000000 in
theorem push_ok (B t : Nat) (va : Value) (l : List V5) (lim : Nat) (w : World) (h : Sk 39 B t va l lim w) (x : V5) (hB : B ≤ w.heap.size) (hx1 : okV x = true) (hf : l.length < lim) :
    Calls Tryd.prog 6 #[.pointer (some ⟨t, 0, none⟩), .agg #[.int .i64 x.k, .int .i64 x.p, .int .i64 x.q, .string x.s, .int .i64 x.r]] w fun e w' => e = .returned (.int .i64 0) ∧ SkSaid 39 B t va (l ++ [x]) lim w w' := by
  have h0 := h.ch0 ((Ch.refl [] w).alloc (.cells #[.int .i64 x.k, .int .i64 x.p, .int .i64 x.q, .string x.s, .int .i64 x.r] 25))
  have H := Lib.hid h
  obtain ⟨p, cap, rfl⟩ := h.form1
  have HB : Hid (Blk 25 w.heap.size #[.int .i64 x.k, .int .i64 x.p, .int .i64 x.q, .string x.s, .int .i64 x.r] (w.alloc (.cells #[.int .i64 x.k, .int .i64 x.p, .int .i64 x.q, .string x.s, .int .i64 x.r] 25))) := Lib.hid (Blk.new w _ _ _ rfl)
  have HC : Hid (Ch [] w (w.alloc (.cells #[.int .i64 x.k, .int .i64 x.p, .int .i64 x.q, .string x.s, .int .i64 x.r] 25))) := Lib.hid ((Ch.refl [] w).alloc _)
  have QV : Hid (∀ W, Calls Tryd.prog 7 #[.agg #[.int .i64 x.k, .int .i64 x.p, .int .i64 x.q, .string x.s, .int .i64 x.r]] W fun e w' => e = .returned (.bool true) ∧ Below W.heap.size W w') := Lib.hid fun W => by rw [← (show okV x = true from hx1)]; exact valid5 x.k x.p x.q x.s x.r W
  have htop := h.top
  have hle := h.le
  clear h h0 hx1
  go_enter Tryd.func6, Tryd.ntmps6
  go_upto_region 3 with fail
  generalize (w.alloc (.cells #[.int .i64 x.k, .int .i64 x.p, .int .i64 x.q, .string x.s, .int .i64 x.r] 25)) = w0 at *
  have u0 : w0.cell? ⟨w.heap.size, 0, none⟩ = some (.int .i64 x.k) := HB.out.cell 0
  have u1 : w0.cell? ⟨w.heap.size, 1, none⟩ = some (.int .i64 x.p) := HB.out.cell 1
  have u2 : w0.cell? ⟨w.heap.size, 2, none⟩ = some (.int .i64 x.q) := HB.out.cell 2
  have u3 : w0.cell? ⟨w.heap.size, 3, none⟩ = some (.string x.s) := HB.out.cell 3
  have u4 : w0.cell? ⟨w.heap.size, 4, none⟩ = some (.int .i64 x.r) := HB.out.cell 4
  have lu := HB.out.lt
  go_upto_region 5 with (go_at_call 7; (with_reducible refine (QV.out _).mono ?_); rintro e w1 ⟨rfl, hb1⟩; have HC1 : Hid (Ch [] w w1) := Lib.hid (HC.out.trans (Ch.of_below hb1)); have HB1 := Lib.hid (HB.out.below hb1); clear hb1)
  have c0 : w1.cell? ⟨t, 0, none⟩ = some (.slice p l.length cap) := (H.out.ch0 HC1.out).blk.cell 0
  have c1 : w1.cell? ⟨t, 1, none⟩ = some (.int .i64 (lim : Int)) := (H.out.ch0 HC1.out).blk.cell 1
  have hbt := (H.out.ch0 HC1.out).blk.lt
  have hq : ¬ (l.length : Int) = (lim : Int) := by omega
  have hq2 : ((l.length : Int) == (lim : Int)) = false := by rw [beq_eq_false_iff_ne]; exact hq
  go_region
  clear hq2 u0 u1 u2 u3 u4 lu
  have HC2 : Hid (Ch [] w w1.drew) := Lib.hid (HC1.out.drew)
  have HB2 : Hid (Blk 25 w.heap.size #[.int .i64 x.k, .int .i64 x.p, .int .i64 x.q, .string x.s, .int .i64 x.r] w1.drew) := Lib.hid (HB1.out.ch (Ch.refl [] w1).drew (not_nil _))
  clear HC1 HB1 c0 c1 hbt hq
  go_upto_region 7 with fail
  generalize w1.drew = w2 at *
  have u0 : w2.cell? ⟨w.heap.size, 0, none⟩ = some (.int .i64 x.k) := HB2.out.cell 0
  have u1 : w2.cell? ⟨w.heap.size, 1, none⟩ = some (.int .i64 x.p) := HB2.out.cell 1
  have u2 : w2.cell? ⟨w.heap.size, 2, none⟩ = some (.int .i64 x.q) := HB2.out.cell 2
  have u3 : w2.cell? ⟨w.heap.size, 3, none⟩ = some (.string x.s) := HB2.out.cell 3
  have u4 : w2.cell? ⟨w.heap.size, 4, none⟩ = some (.int .i64 x.r) := HB2.out.cell 4
  have lu := HB2.out.lt
  have HC3 : Hid (Ch [] w (w2.alloc (.cells #[.int .i64 x.k, .int .i64 x.p, .int .i64 x.q, .string x.s, .int .i64 x.r] 25))) := Lib.hid (HC2.out.alloc _)
  have QP := Lib.hid (push_any B t _ l lim (w2.alloc (.cells #[.int .i64 x.k, .int .i64 x.p, .int .i64 x.q, .string x.s, .int .i64 x.r] 25)) (H.out.ch0 HC3.out) (some ⟨w2.heap.size, 0, none⟩) 1 1 [x] (vals_one x w2) (fun e => by cases e) (by simp; omega) (by have := HC3.out.size; omega))
  go_wp2_with (go_at_call 18; (with_reducible refine (QP.out).mono ?_); rintro e w4 ⟨rfl, HS⟩; have HS := Lib.hid HS)
  go_ret
  exact ⟨rfl, SkSaid.before HC3.out HS.out⟩
theorem push_all (B t : Nat) (va : Value) (l : List V5) (lim : Nat) (w : World) (h : Sk 39 B t va l lim w) (x : V5) (hB : B ≤ w.heap.size) :
    Calls Tryd.prog 6 #[.pointer (some ⟨t, 0, none⟩), .agg #[.int .i64 x.k, .int .i64 x.p, .int .i64 x.q, .string x.s, .int .i64 x.r]] w fun e w' => e = .returned (.int .i64 (pushE l lim x)) ∧ SkSaid 39 B t va (pushL l lim x) lim w w' := by
  unfold pushL pushE
  cases hx : okV x with
  | false => exact push_bad B t va l lim w h x hB hx
  | true =>
    by_cases hf : l.length = lim
    · simp only [hf]
      exact push_full B t va l lim w h x hB hx hf
    · simp only [hf]
      exact push_ok B t va l lim w h x hB hx (by have := h.le; omega)
end Go.Proofs.YtibggoikjlnnkaaDoor
