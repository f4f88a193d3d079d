/- Layer 17: what writes the reference's stack. -/
import Derived.Test.YtibggoikjlnnkaaStkE
import Derived.Deep.AppendLies
namespace Go.Proofs.Ytibggoikjlnnkaa
open Go.RowKit Go.Joins M1
set_option linter.unusedVariables false
theorem rpush_nil (x : V5) (w : World) : Calls Try.prog 34 #[.pointer none, .agg #[.int .i64 x.k, .int .i64 x.p, .int .i64 x.q, .string x.s, .int .i64 x.r]] w fun e w' => e = .returned (.int .i64 1) ∧ Ch [] w w' := by
  go_enter Try.func34, Try.ntmps34
  go_wp2
  go_ret
  exact ⟨rfl, (Ch.refl [] w).alloc _⟩
set_option maxHeartbeats 2000000 in
theorem rpush_bad (B t : Nat) (va : Value) (l : List V5) (lim : Nat) (w : World) (h : Sk 65 B t va l lim w) (x : V5) (hB : B ≤ w.heap.size) (hx1 : okV x = false) :
    Calls Try.prog 34 #[.pointer (some ⟨t, 0, none⟩), .agg #[.int .i64 x.k, .int .i64 x.p, .int .i64 x.q, .string x.s, .int .i64 x.r]] w fun e w' => e = .returned (.int .i64 2) ∧ SkSaid 65 B t va l lim w w' := by
  have H := Lib.hid h
  obtain ⟨i0, hi0, jz0, jz1, jz2⟩ := info_parts info_val
  obtain ⟨p, cap, rfl⟩ := h.form1
  have HB : Hid (Blk 35 w.heap.size #[.int .i64 x.k, .int .i64 x.p, .int .i64 x.q, .string x.s, .int .i64 x.r] (w.alloc (.cells #[.int .i64 x.k, .int .i64 x.p, .int .i64 x.q, .string x.s, .int .i64 x.r] 35))) := Lib.hid (Blk.new w _ _ _ rfl)
  have HC : Hid (Ch [] w (w.alloc (.cells #[.int .i64 x.k, .int .i64 x.p, .int .i64 x.q, .string x.s, .int .i64 x.r] 35))) := Lib.hid ((Ch.refl [] w).alloc _)
  have QV : Hid (∀ W, Calls Try.prog 23 #[.agg #[.int .i64 x.k, .int .i64 x.p, .int .i64 x.q, .string x.s, .int .i64 x.r]] W fun e w' => e = .returned (.bool false) ∧ Below W.heap.size W w') := Lib.hid fun W => by rw [← (show okV x = false from hx1)]; exact rvalid5 x.k x.p x.q x.s x.r W
  have htop := h.top
  have hle := h.le
  clear h hx1
  go_enter Try.func34, Try.ntmps34
  go_upto_region 3 with fail
  generalize (w.alloc (.cells #[.int .i64 x.k, .int .i64 x.p, .int .i64 x.q, .string x.s, .int .i64 x.r] 35)) = w0 at *
  have u0 : w0.cell? ⟨w.heap.size, 0, none⟩ = some (.int .i64 x.k) := HB.out.cell 0
  have u1 : w0.cell? ⟨w.heap.size, 1, none⟩ = some (.int .i64 x.p) := HB.out.cell 1
  have u2 : w0.cell? ⟨w.heap.size, 2, none⟩ = some (.int .i64 x.q) := HB.out.cell 2
  have u3 : w0.cell? ⟨w.heap.size, 3, none⟩ = some (.string x.s) := HB.out.cell 3
  have u4 : w0.cell? ⟨w.heap.size, 4, none⟩ = some (.int .i64 x.r) := HB.out.cell 4
  have lu := HB.out.lt
  go_wp2_with (go_at_call 23; (with_reducible refine (QV.out _).mono ?_); rintro e w1 ⟨rfl, hb1⟩; have HC1 : Hid (Ch [] w w1) := Lib.hid (HC.out.trans (Ch.of_below hb1)); have HB1 := Lib.hid (HB.out.below hb1); clear hb1)
  go_ret
  exact ⟨rfl, sk_0 H.out HC1.out⟩
set_option maxHeartbeats 2000000 in
theorem rpush_full (B t : Nat) (va : Value) (l : List V5) (lim : Nat) (w : World) (h : Sk 65 B t va l lim w) (x : V5) (hB : B ≤ w.heap.size) (hx1 : okV x = true) (hf : l.length = lim) :
    Calls Try.prog 34 #[.pointer (some ⟨t, 0, none⟩), .agg #[.int .i64 x.k, .int .i64 x.p, .int .i64 x.q, .string x.s, .int .i64 x.r]] w fun e w' => e = .returned (.int .i64 17) ∧ SkSaid 65 B t va l lim w w' := by
  have H := Lib.hid h
  obtain ⟨i0, hi0, jz0, jz1, jz2⟩ := info_parts info_val
  obtain ⟨p, cap, rfl⟩ := h.form1
  have HB : Hid (Blk 35 w.heap.size #[.int .i64 x.k, .int .i64 x.p, .int .i64 x.q, .string x.s, .int .i64 x.r] (w.alloc (.cells #[.int .i64 x.k, .int .i64 x.p, .int .i64 x.q, .string x.s, .int .i64 x.r] 35))) := Lib.hid (Blk.new w _ _ _ rfl)
  have HC : Hid (Ch [] w (w.alloc (.cells #[.int .i64 x.k, .int .i64 x.p, .int .i64 x.q, .string x.s, .int .i64 x.r] 35))) := Lib.hid ((Ch.refl [] w).alloc _)
  have QV : Hid (∀ W, Calls Try.prog 23 #[.agg #[.int .i64 x.k, .int .i64 x.p, .int .i64 x.q, .string x.s, .int .i64 x.r]] W fun e w' => e = .returned (.bool true) ∧ Below W.heap.size W w') := Lib.hid fun W => by rw [← (show okV x = true from hx1)]; exact rvalid5 x.k x.p x.q x.s x.r W
  have htop := h.top
  have hle := h.le
  clear h hx1
  go_enter Try.func34, Try.ntmps34
  go_upto_region 3 with fail
  generalize (w.alloc (.cells #[.int .i64 x.k, .int .i64 x.p, .int .i64 x.q, .string x.s, .int .i64 x.r] 35)) = w0 at *
  have u0 : w0.cell? ⟨w.heap.size, 0, none⟩ = some (.int .i64 x.k) := HB.out.cell 0
  have u1 : w0.cell? ⟨w.heap.size, 1, none⟩ = some (.int .i64 x.p) := HB.out.cell 1
  have u2 : w0.cell? ⟨w.heap.size, 2, none⟩ = some (.int .i64 x.q) := HB.out.cell 2
  have u3 : w0.cell? ⟨w.heap.size, 3, none⟩ = some (.string x.s) := HB.out.cell 3
  have u4 : w0.cell? ⟨w.heap.size, 4, none⟩ = some (.int .i64 x.r) := HB.out.cell 4
  have lu := HB.out.lt
  go_upto_region 5 with (go_at_call 23; (with_reducible refine (QV.out _).mono ?_); rintro e w1 ⟨rfl, hb1⟩; have HC1 : Hid (Ch [] w w1) := Lib.hid (HC.out.trans (Ch.of_below hb1)); have HB1 := Lib.hid (HB.out.below hb1); clear hb1)
  have c0 : w1.cell? ⟨t, 0, none⟩ = some (.slice p l.length cap) := (H.out.ch0 HC1.out).blk.cell 0
  have c1 : w1.cell? ⟨t, 1, none⟩ = some (.int .i64 (lim : Int)) := (H.out.ch0 HC1.out).blk.cell 1
  have hbt := (H.out.ch0 HC1.out).blk.lt
  have hq : (lim : Int) ≤ (l.length : Int) := by omega
  clear hf
  go_region
  go_wp2
  go_ret
  exact ⟨rfl, sk_0 H.out (HC1.out.trans (Ch.refl _ _).drew)⟩
set_option maxHeartbeats 2000000 in
theorem rpush_ok (B t : Nat) (va : Value) (l : List V5) (lim : Nat) (w : World) (h : Sk 65 B t va l lim w) (x : V5) (hB : B ≤ w.heap.size) (hx1 : okV x = true) (hf : l.length < lim) :
    Calls Try.prog 34 #[.pointer (some ⟨t, 0, none⟩), .agg #[.int .i64 x.k, .int .i64 x.p, .int .i64 x.q, .string x.s, .int .i64 x.r]] w fun e w' => e = .returned (.int .i64 0) ∧ SkSaid 65 B t va (l ++ [x]) lim w w' := by
  have H := Lib.hid h
  obtain ⟨i0, hi0, jz0, jz1, jz2⟩ := info_parts info_val
  obtain ⟨p, cap, rfl⟩ := h.form1
  have HB : Hid (Blk 35 w.heap.size #[.int .i64 x.k, .int .i64 x.p, .int .i64 x.q, .string x.s, .int .i64 x.r] (w.alloc (.cells #[.int .i64 x.k, .int .i64 x.p, .int .i64 x.q, .string x.s, .int .i64 x.r] 35))) := Lib.hid (Blk.new w _ _ _ rfl)
  have HC : Hid (Ch [] w (w.alloc (.cells #[.int .i64 x.k, .int .i64 x.p, .int .i64 x.q, .string x.s, .int .i64 x.r] 35))) := Lib.hid ((Ch.refl [] w).alloc _)
  have QV : Hid (∀ W, Calls Try.prog 23 #[.agg #[.int .i64 x.k, .int .i64 x.p, .int .i64 x.q, .string x.s, .int .i64 x.r]] W fun e w' => e = .returned (.bool true) ∧ Below W.heap.size W w') := Lib.hid fun W => by rw [← (show okV x = true from hx1)]; exact rvalid5 x.k x.p x.q x.s x.r W
  have htop := h.top
  have hle := h.le
  clear h hx1
  go_enter Try.func34, Try.ntmps34
  go_upto_region 3 with fail
  generalize (w.alloc (.cells #[.int .i64 x.k, .int .i64 x.p, .int .i64 x.q, .string x.s, .int .i64 x.r] 35)) = w0 at *
  have u0 : w0.cell? ⟨w.heap.size, 0, none⟩ = some (.int .i64 x.k) := HB.out.cell 0
  have u1 : w0.cell? ⟨w.heap.size, 1, none⟩ = some (.int .i64 x.p) := HB.out.cell 1
  have u2 : w0.cell? ⟨w.heap.size, 2, none⟩ = some (.int .i64 x.q) := HB.out.cell 2
  have u3 : w0.cell? ⟨w.heap.size, 3, none⟩ = some (.string x.s) := HB.out.cell 3
  have u4 : w0.cell? ⟨w.heap.size, 4, none⟩ = some (.int .i64 x.r) := HB.out.cell 4
  have lu := HB.out.lt
  go_upto_region 5 with (go_at_call 23; (with_reducible refine (QV.out _).mono ?_); rintro e w1 ⟨rfl, hb1⟩; have HC1 : Hid (Ch [] w w1) := Lib.hid (HC.out.trans (Ch.of_below hb1)); have HB1 := Lib.hid (HB.out.below hb1); clear hb1)
  have c0 : w1.cell? ⟨t, 0, none⟩ = some (.slice p l.length cap) := (H.out.ch0 HC1.out).blk.cell 0
  have c1 : w1.cell? ⟨t, 1, none⟩ = some (.int .i64 (lim : Int)) := (H.out.ch0 HC1.out).blk.cell 1
  have hbt := (H.out.ch0 HC1.out).blk.lt
  have hq : ¬ (lim : Int) ≤ (l.length : Int) := by omega
  go_region
  clear u0 u1 u2 u3 u4 lu
  have HC2 : Hid (Ch [] w w1.drew) := Lib.hid (HC1.out.drew)
  have HB2 : Hid (Blk 35 w.heap.size #[.int .i64 x.k, .int .i64 x.p, .int .i64 x.q, .string x.s, .int .i64 x.r] w1.drew) := Lib.hid (HB1.out.ch (Ch.refl [] w1).drew (not_nil _))
  clear HC1 HB1 c0 c1 hbt hq
  go_upto_region 7 with fail
  generalize w1.drew = w2 at *
  have H2 := Lib.hid (H.out.ch0 HC2.out)
  have u0 : w2.cell? ⟨w.heap.size, 0, none⟩ = some (.int .i64 x.k) := HB2.out.cell 0
  have u1 : w2.cell? ⟨w.heap.size, 1, none⟩ = some (.int .i64 x.p) := HB2.out.cell 1
  have u2 : w2.cell? ⟨w.heap.size, 2, none⟩ = some (.int .i64 x.q) := HB2.out.cell 2
  have u3 : w2.cell? ⟨w.heap.size, 3, none⟩ = some (.string x.s) := HB2.out.cell 3
  have u4 : w2.cell? ⟨w.heap.size, 4, none⟩ = some (.int .i64 x.r) := HB2.out.cell 4
  have lu := HB2.out.lt
  have c0 : w2.cell? ⟨t, 0, none⟩ = some (.slice p l.length cap) := H2.out.blk.cell 0
  have hbl := H2.out.blk.lt
  have HLN : Hid (l.length ≤ 1000) := Lib.hid (by omega)
  have HBR : Hid (B ≤ w2.heap.size) := Lib.hid (Nat.le_trans hB HC2.out.size)
  have HLF := Lib.hid hf
  clear hf
  go_region_law (refine step_append_lies _ (by rfl) _ _ 43 (by rfl) B 35 i0 (.agg #[.int .i64 0, .int .i64 0, .int .i64 0, .string ⟨#[]⟩, .int .i64 0]) 5 48 Try.underlying43 hi0 jz0 jz1 jz2 rfl (by decide) _ l.length (l.flatMap vC) (by rfl) (Ch.ownB (by first | exact ((Ch.refl [] w2).drew).alloc _ | exact ((Ch.refl [] w2).alloc _).drew) H2.out.row (fun g _ => not_nil g)) ⟨w2.heap.size, 0, none⟩ 1 1 (vC x) (by rfl) (by rfl) (by first | exact vC_at x w2.drew _ rfl | exact vC_at x w2 _ rfl) (vC_one _) (by decide) (by unfold maxLen; have := HLN.out; omega) (by have := HLN.out; omega) (by have := HBR.out; simp; omega) _ (by rfl) ?_; intro g1 cp w5 hown1 hgrow hat hlt1; have h35 : Ch (ob (.slice p l.length cap)) w2 w5 := Ch.trans (by first | exact ((Ch.refl _ w2).drew).alloc _ | exact ((Ch.refl _ w2).alloc _).drew) (Ch.of_grown hgrow (fun y e => mem_ob.2 e)); have H35 := Lib.hid h35; have HO1 := Lib.hid hown1; have HAT := Lib.hid hat; have hbk5 := H2.out.blk.ch h35 (fun hy => H2.out.ap _ hy rfl); have HBK5 := Lib.hid hbk5; have u0 : w5.cell? ⟨t, 0, none⟩ = some (.slice p l.length cap) := hbk5.cell 0; have v0 := hbk5.fz 0; have hb5 := hbk5.lt; clear h35 hown1 hgrow hat hbk5)
  all_goals (
    have HS : Hid (SkSaid 65 B t (.slice p l.length cap) (l ++ [x]) lim w2 (w5.setCell ⟨t, 0, none⟩ (.slice (some ⟨g1, 0, none⟩) (l.length + 1) cp))) := Lib.hid (H2.out.laid (va' := .slice (some ⟨g1, 0, none⟩) (l.length + 1) cp) (l' := l ++ [x]) (by decide) H35.out (by have := HO1.out; simpa using this) (by have := HLF.out; simp; omega) (fun g hg => by
      simp [Go.Proofs.Ytibggoikjlnnkaa.ob, Value.ownBlock] at hg
      subst hg
      rcases HAT.out with h' | h'
      · left; rw [mem_ob, h']
      · right; rw [h']; simp))
    go_wp2_with fail
    go_ret
    first | exact ⟨rfl, SkSaid.before HC2.out HS.out⟩ | exact ⟨rfl, SkSaid.before HC2.out (HS.out.after (Ch.refl [] _).drew)⟩)
theorem rpush_all (B t : Nat) (va : Value) (l : List V5) (lim : Nat) (w : World) (h : Sk 65 B t va l lim w) (x : V5) (hB : B ≤ w.heap.size) :
    Calls Try.prog 34 #[.pointer (some ⟨t, 0, none⟩), .agg #[.int .i64 x.k, .int .i64 x.p, .int .i64 x.q, .string x.s, .int .i64 x.r]] w fun e w' => e = .returned (.int .i64 (pushE l lim x)) ∧ SkSaid 65 B t va (pushL l lim x) lim w w' := by
  unfold pushL pushE
  cases hx : okV x with
  | false => exact rpush_bad B t va l lim w h x hB hx
  | true =>
    by_cases hf : l.length = lim
    · simp only [hf]
      exact rpush_full B t va l lim w h x hB hx hf
    · simp only [hf]
      exact rpush_ok B t va l lim w h x hB hx (by have := h.le; omega)
theorem rpop_nil (n : Int) (w : World) : Calls Try.prog 35 #[.pointer none, .int .i64 n] w fun e w' => e = .returned (.int .i64 1) ∧ w = w' := by
  go_enter Try.func35, Try.ntmps35
  go_wp2
  go_ret
  exact ⟨rfl, rfl⟩
/-- The reference cuts without clearing. -/
theorem Sk.shorter {T : TypeId} {B t lim cap : Nat} {p : Option Addr} {l : List V5} {w : World} (hT : T ≠ 35) (h : Sk T B t (.slice p l.length cap) l lim w) (k : Nat) (hk : k ≤ l.length) : SkSaid T B t (.slice p l.length cap) (l.take k) lim w (w.setCell ⟨t, 0, none⟩ (.slice p k cap)) := by
  have ht := own_take h.row hk
  rw [← take_flat] at ht
  exact h.laid hT (Ch.refl _ w) (by rw [List.length_take, Nat.min_eq_left hk]; exact ht) (by have := h.le; simp; omega) (fun y hy => .inl ((ob_len y).1 hy))
set_option maxHeartbeats 1000000 in
theorem rpop_all (B t : Nat) (va : Value) (l : List V5) (lim : Nat) (w : World) (h : Sk 65 B t va l lim w) (n : Int) :
    Calls Try.prog 35 #[.pointer (some ⟨t, 0, none⟩), .int .i64 n] w fun e w' => e = .returned (.int .i64 (popE l n)) ∧ SkSaid 65 B t va (popL l n) lim w w' := by
  have H := Lib.hid h
  unfold popL popE
  have hL : l.length ≤ 1000 := Nat.le_trans h.le h.top
  by_cases g1 : n < 0
  · simp only [if_pos g1]
    obtain ⟨p, cap, rfl⟩ := h.form1
    clear h
    go_enter Try.func35, Try.ntmps35
    go_wp2
    go_ret
    exact ⟨rfl, sk_0 H.out (Ch.refl _ _)⟩
  · by_cases g2 : (l.length : Int) < n
    · simp only [if_neg g1, if_pos g2]
      obtain ⟨p, cap, rfl⟩ := h.form1
      have c0 : w.cell? ⟨t, 0, none⟩ = some (.slice p l.length cap) := h.blk.cell 0
      have hb := h.blk.lt
      clear h
      go_enter Try.func35, Try.ntmps35
      go_wp2
      go_ret
      exact ⟨rfl, sk_0 H.out (Ch.refl _ _)⟩
    · simp only [if_neg g1, if_neg g2, if_true]
      obtain ⟨k, hk⟩ : ∃ k, k = l.length - n.toNat := ⟨_, rfl⟩
      rw [← hk]
      have hkl : k ≤ l.length := by omega
      have hd : IntKind.i64.wrap ((l.length : Int) - n) = (k : Int) := by rw [show (l.length : Int) - n = (k : Int) by omega]; exact IntWalk.i64_in _ (by omega)
      have hk1 : (k : Int) ≤ (l.length : Int) := by omega
      rcases h.form with ⟨rfl, rfl⟩ | ⟨g, cap, rfl⟩
      · obtain rfl : k = 0 := by simpa using hkl
        have c0 : w.cell? ⟨t, 0, none⟩ = some (.slice none 0 0) := h.blk.cell 0
        have f0 := h.blk.fz 0
        have hb := h.blk.lt
        have HS := Lib.hid (Sk.shorter (T := 65) (cap := 0) (p := none) (l := []) (by decide) h 0 (Nat.zero_le _))
        obtain rfl : n = 0 := by simp at g2; omega
        clear h hk hkl hd
        go_enter Try.func35, Try.ntmps35
        go_upto_region 7 with fail
        go_region
        go_wp2
        go_ret
        exact ⟨rfl, HS.out.after (Ch.refl [] _).drew⟩
      · have c0 : w.cell? ⟨t, 0, none⟩ = some (.slice (some ⟨g, 0, none⟩) l.length cap) := h.blk.cell 0
        have f0 := h.blk.fz 0
        have hb := h.blk.lt
        have hcap : l.length ≤ cap := row_cap h.row
        have hk2 : (l.length : Int) ≤ (cap : Int) := by omega
        have hk3 : (k : Int) ≤ (cap : Int) := by omega
        have hk0 : (0 : Int) ≤ (k : Int) := by omega
        have HS := Lib.hid (Sk.shorter (T := 65) (by decide) h k hkl)
        clear h hk hkl
        go_enter Try.func35, Try.ntmps35
        go_upto_region 7 with fail
        go_region
        go_wp2
        go_ret
        exact ⟨rfl, HS.out.after (Ch.refl [] _).drew⟩
theorem rlist_nil (w : World) : Calls Try.prog 19 #[.pointer none] w fun e w' => e = .returned (.slice none 0 0) ∧ w = w' := by
  go_enter Try.func19, Try.ntmps19
  go_wp2
  go_ret
  exact ⟨rfl, rfl⟩
set_option maxHeartbeats 1000000 in
theorem rlist_any (B t : Nat) (va : Value) (l : List V5) (lim : Nat) (w : World) (h : Sk 65 B t va l lim w) :
    Calls Try.prog 19 #[.pointer (some ⟨t, 0, none⟩)] w fun e w' => (∃ v', e = .returned v' ∧ w'.ownsRow w.heap.size 35 5 v' l.length (l.flatMap vC)) ∧ Below w.heap.size w w' := by
  have hc : Ch [] w (w.alloc (.cells #[] 35)) := (Ch.refl [] w).alloc _
  have h1 := h.ch0 hc
  have HA := Lib.hid (ValsA.of_row h1.row)
  obtain ⟨p, cap, rfl⟩ := h.form1
  have c0 : (w.alloc (.cells #[] 35)).cell? ⟨t, 0, none⟩ = some (.slice p l.length cap) := h1.blk.cell 0
  have hb := h1.blk.lt
  have HN := Lib.hid (World.ownsRow_lit (w := w) (base := w.heap.size) #[] 0 (e := 35) (size := 5) (Nat.le_refl _) (Nat.zero_le _) rfl)
  have HC0 : Hid (p = none → cap = 0) := Lib.hid (fun e => by
    rcases h.form with ⟨q, _⟩ | ⟨g, cap', q⟩
    · injection q
    · injection q with q; rw [e] at q; cases q)
  have HL : Hid (([] : List V5).length + l.length ≤ 1000000 ∧ w.heap.size ≤ (w.alloc (.cells #[] 35)).heap.size) := Lib.hid ⟨by have := h.le; have := h.top; simp; omega, hc.size⟩
  clear h h1 hc
  go_enter Try.func19, Try.ntmps19
  go_wp2_with (at_builtin; refine append_vals rfl _ _ rfl w.heap.size _ ([] : List V5) rfl HN.out p l.length cap l rfl HA.out HC0.out HL.out.1 HL.out.2 ?_)
  intro v' W' ho' hc' hg'
  have HO5 : Hid (W'.ownsRow w.heap.size 35 5 v' l.length (l.flatMap vC)) := Lib.hid (by simpa using ho')
  have HB5 : Hid (Below w.heap.size w W') := Lib.hid (((Ch.refl [] w).alloc (.cells #[] 35)).fresh (fun g hg => by simp [Go.Proofs.Ytibggoikjlnnkaa.ob, Value.ownBlock] at hg; omega) hc').below
  clear ho' hc' hg'
  go_wp2
  go_ret
  exact ⟨⟨_, rfl, HO5.out⟩, HB5.out⟩
end Go.Proofs.Ytibggoikjlnnkaa
