/- Layer 20: actions, lists that came in; taken, copied. -/
import Derived.Test.YtdgdpckjcpgoaaaStkC
import Derived.Deep.DeepCutAuto
import Derived.Deep.CutBlock
import Derived.Maps.AppendAt
import Derived.Laws.MakeOwn
import Derived.OwnWalk
namespace Go.Proofs.Ytdgdpckjcpgoaaa
open Go.RowKit Go.Joins M1
set_option linter.unusedVariables false
structure Act where
  k : Int
  op : Int
  f : V5
  l : List V5
  s : ByteArray
  lv : Int
  nx : Int
  kp : List V5
deriving DecidableEq
def Rw (B : Nat) (v : Value) (l : List V5) (w : World) : Prop := w.ownsRow B 26 5 v l.length (l.flatMap vC)
theorem Rw.ch {B : Nat} {v : Value} {l : List V5} {w w' : World} {S : List Nat} (h : Rw B v l w) (hc : Ch S w w') (hS : ∀ g ∈ ob v, g ∉ S) : Rw B v l w' := hc.ownB h hS
theorem Rw.ch0 {B : Nat} {v : Value} {l : List V5} {w w' : World} (h : Rw B v l w) (hc : Ch [] w w') : Rw B v l w' := hc.ownB h (fun g _ => not_nil g)
theorem Rw.nil (B : Nat) (w : World) : Rw B (.slice none 0 0) [] w := World.ownsRow_nil _ _ _ _
theorem Rw.form {B : Nat} {v : Value} {l : List V5} {w : World} (h : Rw B v l w) : (v = .slice none 0 0 ∧ l = []) ∨ ∃ g cap, v = .slice (some ⟨g, 0, none⟩) l.length cap := by
  rcases Joins.ownsRow_forms h with ⟨h1, h2⟩ | ⟨g, cap, h1⟩
  · exact .inl ⟨h1, List.length_eq_zero_iff.1 h2⟩
  · exact .inr ⟨g, cap, h1⟩
/-- A list of values that can be read; nil has no capacity. -/
def VA (w : World) (v : Value) (l : List V5) : Prop := ∃ p c, v = .slice p l.length c ∧ (p = none → c = 0) ∧ ValsA w v l
theorem VA.below {w w' : World} {v : Value} {l : List V5} (h : VA w v l) (hb : Ch [] w w') : VA w' v l := by
  obtain ⟨p, c, h1, h2, h3⟩ := h
  exact ⟨p, c, h1, h2, h3.below hb⟩
theorem Rw.va {B : Nat} {v : Value} {l : List V5} {w : World} (h : Rw B v l w) : VA w v l := by
  rcases h.form with ⟨h1, h2⟩ | ⟨g, cap, h1⟩
  · exact ⟨none, 0, by rw [h1, h2]; rfl, fun _ => rfl, ValsA.of_row h⟩
  · exact ⟨_, cap, h1, (fun e => by cases e), ValsA.of_row h⟩
theorem VA.nil (w : World) : VA w (.slice none 0 0) [] := ⟨none, 0, rfl, fun _ => rfl, vals_nil _ _⟩
theorem VA.one (x : V5) (W : World) : VA (W.alloc (.cells #[.int .i64 x.k, .int .i64 x.p, .int .i64 x.q, .string x.s, .int .i64 x.r] 26)) (.slice (some ⟨W.heap.size, 0, none⟩) 1 1) [x] :=
  ⟨_, 1, rfl, (fun e => by cases e), vals_one x W⟩
def aV (a : Act) (vl vk : Value) : Value := .agg #[.int .i64 a.k, .int .i64 a.op, .int .i64 a.f.k, .int .i64 a.f.p, .int .i64 a.f.q, .string a.f.s, .int .i64 a.f.r, vl, .string a.s, .int .i64 a.lv, .int .i64 a.nx, vk]
/-- An action that can be read. -/
def AA (w : World) (v : Value) (a : Act) : Prop := ∃ vl vk, v = aV a vl vk ∧ VA w vl a.l ∧ VA w vk a.kp
/-- An action in memory of its own. -/
def AO (B : Nat) (v : Value) (a : Act) (w : World) : Prop := ∃ vl vk, v = aV a vl vk ∧ Rw B vl a.l w ∧ Rw B vk a.kp w
theorem AA.below {w w' : World} {v : Value} {a : Act} (h : AA w v a) (hb : Ch [] w w') : AA w' v a := by
  obtain ⟨vl, vk, h1, h2, h3⟩ := h
  exact ⟨vl, vk, h1, h2.below hb, h3.below hb⟩
theorem AO.aa {B : Nat} {w : World} {v : Value} {a : Act} (h : AO B v a w) : AA w v a := by
  obtain ⟨vl, vk, h1, h2, h3⟩ := h
  exact ⟨vl, vk, h1, h2.va, h3.va⟩
theorem AO.ch0 {B : Nat} {w w' : World} {v : Value} {a : Act} (h : AO B v a w) (hb : Ch [] w w') : AO B v a w' := by
  obtain ⟨vl, vk, h1, h2, h3⟩ := h
  exact ⟨vl, vk, h1, h2.ch0 hb, h3.ch0 hb⟩
/-- Twelve stores: an action is stored whole. -/
def st12 (W : World) (R : Nat) (a0 a1 a2 a3 a4 a5 a6 a7 a8 a9 a10 a11 : Value) : World := (((((((((((W.setCell ⟨R, 0, none⟩ a0).setCell ⟨R, 1, none⟩ a1).setCell ⟨R, 2, none⟩ a2).setCell ⟨R, 3, none⟩ a3).setCell ⟨R, 4, none⟩ a4).setCell ⟨R, 5, none⟩ a5).setCell ⟨R, 6, none⟩ a6).setCell ⟨R, 7, none⟩ a7).setCell ⟨R, 8, none⟩ a8).setCell ⟨R, 9, none⟩ a9).setCell ⟨R, 10, none⟩ a10).setCell ⟨R, 11, none⟩ a11
theorem st12_blk {T : TypeId} {W : World} {R : Nat} {b0 b1 b2 b3 b4 b5 b6 b7 b8 b9 b10 b11 a0 a1 a2 a3 a4 a5 a6 a7 a8 a9 a10 a11 : Value} (h : Blk T R #[b0, b1, b2, b3, b4, b5, b6, b7, b8, b9, b10, b11] W) : Blk T R #[a0, a1, a2, a3, a4, a5, a6, a7, a8, a9, a10, a11] (st12 W R a0 a1 a2 a3 a4 a5 a6 a7 a8 a9 a10 a11) := by
  have h0 : Blk T R #[a0, b1, b2, b3, b4, b5, b6, b7, b8, b9, b10, b11] (W.setCell ⟨R, 0, none⟩ a0) := h.set 0 a0
  have h1 : Blk T R #[a0, a1, b2, b3, b4, b5, b6, b7, b8, b9, b10, b11] ((W.setCell ⟨R, 0, none⟩ a0).setCell ⟨R, 1, none⟩ a1) := h0.set 1 a1
  have h2 : Blk T R #[a0, a1, a2, b3, b4, b5, b6, b7, b8, b9, b10, b11] (((W.setCell ⟨R, 0, none⟩ a0).setCell ⟨R, 1, none⟩ a1).setCell ⟨R, 2, none⟩ a2) := h1.set 2 a2
  have h3 : Blk T R #[a0, a1, a2, a3, b4, b5, b6, b7, b8, b9, b10, b11] ((((W.setCell ⟨R, 0, none⟩ a0).setCell ⟨R, 1, none⟩ a1).setCell ⟨R, 2, none⟩ a2).setCell ⟨R, 3, none⟩ a3) := h2.set 3 a3
  have h4 : Blk T R #[a0, a1, a2, a3, a4, b5, b6, b7, b8, b9, b10, b11] (((((W.setCell ⟨R, 0, none⟩ a0).setCell ⟨R, 1, none⟩ a1).setCell ⟨R, 2, none⟩ a2).setCell ⟨R, 3, none⟩ a3).setCell ⟨R, 4, none⟩ a4) := h3.set 4 a4
  have h5 : Blk T R #[a0, a1, a2, a3, a4, a5, b6, b7, b8, b9, b10, b11] ((((((W.setCell ⟨R, 0, none⟩ a0).setCell ⟨R, 1, none⟩ a1).setCell ⟨R, 2, none⟩ a2).setCell ⟨R, 3, none⟩ a3).setCell ⟨R, 4, none⟩ a4).setCell ⟨R, 5, none⟩ a5) := h4.set 5 a5
  have h6 : Blk T R #[a0, a1, a2, a3, a4, a5, a6, b7, b8, b9, b10, b11] (((((((W.setCell ⟨R, 0, none⟩ a0).setCell ⟨R, 1, none⟩ a1).setCell ⟨R, 2, none⟩ a2).setCell ⟨R, 3, none⟩ a3).setCell ⟨R, 4, none⟩ a4).setCell ⟨R, 5, none⟩ a5).setCell ⟨R, 6, none⟩ a6) := h5.set 6 a6
  have h7 : Blk T R #[a0, a1, a2, a3, a4, a5, a6, a7, b8, b9, b10, b11] ((((((((W.setCell ⟨R, 0, none⟩ a0).setCell ⟨R, 1, none⟩ a1).setCell ⟨R, 2, none⟩ a2).setCell ⟨R, 3, none⟩ a3).setCell ⟨R, 4, none⟩ a4).setCell ⟨R, 5, none⟩ a5).setCell ⟨R, 6, none⟩ a6).setCell ⟨R, 7, none⟩ a7) := h6.set 7 a7
  have h8 : Blk T R #[a0, a1, a2, a3, a4, a5, a6, a7, a8, b9, b10, b11] (((((((((W.setCell ⟨R, 0, none⟩ a0).setCell ⟨R, 1, none⟩ a1).setCell ⟨R, 2, none⟩ a2).setCell ⟨R, 3, none⟩ a3).setCell ⟨R, 4, none⟩ a4).setCell ⟨R, 5, none⟩ a5).setCell ⟨R, 6, none⟩ a6).setCell ⟨R, 7, none⟩ a7).setCell ⟨R, 8, none⟩ a8) := h7.set 8 a8
  have h9 : Blk T R #[a0, a1, a2, a3, a4, a5, a6, a7, a8, a9, b10, b11] ((((((((((W.setCell ⟨R, 0, none⟩ a0).setCell ⟨R, 1, none⟩ a1).setCell ⟨R, 2, none⟩ a2).setCell ⟨R, 3, none⟩ a3).setCell ⟨R, 4, none⟩ a4).setCell ⟨R, 5, none⟩ a5).setCell ⟨R, 6, none⟩ a6).setCell ⟨R, 7, none⟩ a7).setCell ⟨R, 8, none⟩ a8).setCell ⟨R, 9, none⟩ a9) := h8.set 9 a9
  have h10 : Blk T R #[a0, a1, a2, a3, a4, a5, a6, a7, a8, a9, a10, b11] (((((((((((W.setCell ⟨R, 0, none⟩ a0).setCell ⟨R, 1, none⟩ a1).setCell ⟨R, 2, none⟩ a2).setCell ⟨R, 3, none⟩ a3).setCell ⟨R, 4, none⟩ a4).setCell ⟨R, 5, none⟩ a5).setCell ⟨R, 6, none⟩ a6).setCell ⟨R, 7, none⟩ a7).setCell ⟨R, 8, none⟩ a8).setCell ⟨R, 9, none⟩ a9).setCell ⟨R, 10, none⟩ a10) := h9.set 10 a10
  have h11 : Blk T R #[a0, a1, a2, a3, a4, a5, a6, a7, a8, a9, a10, a11] ((((((((((((W.setCell ⟨R, 0, none⟩ a0).setCell ⟨R, 1, none⟩ a1).setCell ⟨R, 2, none⟩ a2).setCell ⟨R, 3, none⟩ a3).setCell ⟨R, 4, none⟩ a4).setCell ⟨R, 5, none⟩ a5).setCell ⟨R, 6, none⟩ a6).setCell ⟨R, 7, none⟩ a7).setCell ⟨R, 8, none⟩ a8).setCell ⟨R, 9, none⟩ a9).setCell ⟨R, 10, none⟩ a10).setCell ⟨R, 11, none⟩ a11) := h10.set 11 a11
  exact h11
theorem st12_ch {S : List Nat} {w W : World} {R : Nat} {a0 a1 a2 a3 a4 a5 a6 a7 a8 a9 a10 a11 : Value} (h : Ch S w W) (hR : R ∈ S ∨ w.heap.size ≤ R) : Ch S w (st12 W R a0 a1 a2 a3 a4 a5 a6 a7 a8 a9 a10 a11) := by
  have h0 := h.set R 0 a0 hR
  have h1 := h0.set R 1 a1 hR
  have h2 := h1.set R 2 a2 hR
  have h3 := h2.set R 3 a3 hR
  have h4 := h3.set R 4 a4 hR
  have h5 := h4.set R 5 a5 hR
  have h6 := h5.set R 6 a6 hR
  have h7 := h6.set R 7 a7 hR
  have h8 := h7.set R 8 a8 hR
  have h9 := h8.set R 9 a9 hR
  have h10 := h9.set R 10 a10 hR
  have h11 := h10.set R 11 a11 hR
  exact h11
set_option maxHeartbeats 1000000 in
theorem taken_any (v : Value) (l : List V5) (w : World) (h : VA w v l) (hl : l.length ≤ 1000000) :
    Calls Try.prog 33 #[v] w fun e w' => ∃ v', e = .returned v' ∧ Rw w.heap.size v' l w' ∧ Ch [] w w' := by
  obtain ⟨p, c, rfl, hc, hv⟩ := h
  have HN := Lib.hid (Rw.nil w.heap.size w)
  have HV := Lib.hid hv
  have HL : Hid (([] : List V5).length + l.length ≤ 1000000) := Lib.hid (by simpa using hl)
  clear hv
  go_enter Try.func33, Try.ntmps33
  go_wp2_with (at_builtin; refine append_vals rfl _ _ rfl w.heap.size _ [] rfl HN.out p l.length c l rfl HV.out hc HL.out (Nat.le_refl _) ?_)
  intro v' W' ho' hc' hg'
  have HO : Hid (Rw w.heap.size v' l W') := Lib.hid ho'
  have HC : Hid (Ch [] w W') := Lib.hid (hc'.mono (fun g hg => by simp [Go.Proofs.Ytdgdpckjcpgoaaa.ob, Value.ownBlock] at hg))
  clear ho' hc' hg'
  go_wp2
  go_ret
  exact ⟨_, rfl, HO.out, HC.out⟩
set_option maxHeartbeats 4000000 in
theorem copied_any (v : Value) (l : List V5) (w : World) (h : VA w v l) (hl : l.length ≤ 1000000) :
    Calls Try.prog 34 #[v] w fun e w' => ∃ v', e = .returned v' ∧ Rw w.heap.size v' l w' ∧ Ch [] w w' := by
  obtain ⟨i0, hi0, jz0, jz1, jz2⟩ := info_parts info_val
  obtain ⟨p, c, rfl, hc, hv⟩ := h
  obtain ⟨p', c', e', hk⟩ := hv.form
  injection e' with e1 e2 e3
  subst e1 e3
  clear hv hc
  have HK := Lib.hid hk
  have HL := Lib.hid hl
  clear hk
  go_enter Try.func34, Try.ntmps34
  go_upto_region 1 with fail
  have HN := Lib.hid (World.ownsRow_lit (w := w) #[] 0 (e := 26) (size := 5) (Nat.le_refl _) (Nat.zero_le _) rfl)
  have HC : Hid (Ch [] w (w.alloc (.cells #[] 26))) := Lib.hid ((Ch.refl [] w).alloc _)
  go_wp2
  go_loopw [3, 4] (fun v3 v4 wr => ∃ (k : Nat) (p3 : Option Addr) (c3 : Nat), k ≤ l.length ∧ v3 = .slice p3 k c3 ∧ v4 = .int .i64 (k : Int) ∧ Hid (wr.ownsRow w.heap.size 26 5 (.slice p3 k c3) k ((l.take k).flatMap vC)) ∧ Hid (Ch [] w wr)) (fun _ v4 _ => l.length - (intOf v4).toNat)
  case atStart => exact ⟨0, _, _, Nat.zero_le _, rfl, rfl, HN, HC⟩
  case round =>
    obtain ⟨k, p3, c3, hk, rfl, rfl, HV, HB⟩ := hrel
    rename World => W0
    by_cases hlt : k < l.length
    · have hlt' : (k : Int) < (l.length : Int) := by omega
      have hi0' : (0 : Int) ≤ (k : Int) := by omega
      have di : IntKind.i64.wrap ((k : Int) + 1) = (k : Int) + 1 := IntWalk.i64_in _ (by have := HL.out; omega)
      obtain ⟨g, o, rfl, hg, hcv⟩ := HK.out (by omega)
      obtain ⟨x, hx⟩ : ∃ x, x = l[k] := ⟨_, rfl⟩
      have m1 : ∀ j, j < 5 → W0.cell? ⟨g, o + k * 5 + j, none⟩ = (vC x)[j]? := fun j hj => (HB.out.below.cell (p := ⟨g, _, none⟩) hg).trans (by rw [hx]; exact hcv k j hlt hj)
      have hg2 : g < W0.heap.size := Nat.lt_of_lt_of_le hg HB.out.size
      have s0 : W0.cell? ⟨g, o + k * 5, none⟩ = some (.int .i64 x.k) := m1 0 (by omega)
      have s1 : W0.cell? ⟨g, o + k * 5 + 1, none⟩ = some (.int .i64 x.p) := m1 1 (by omega)
      have s2 : W0.cell? ⟨g, o + k * 5 + 2, none⟩ = some (.int .i64 x.q) := m1 2 (by omega)
      have s3 : W0.cell? ⟨g, o + k * 5 + 3, none⟩ = some (.string x.s) := m1 3 (by omega)
      have s4 : W0.cell? ⟨g, o + k * 5 + 4, none⟩ = some (.int .i64 x.r) := m1 4 (by omega)
      have HT : Hid (l.take (k + 1) = l.take k ++ [x]) := Lib.hid (by rw [hx, List.take_succ_eq_append_getElem hlt])
      clear m1 hcv hx
      have hsz := HB.out.size
      have HH : Hid ((W0.alloc (.cells #[.int .i64 x.k, .int .i64 x.p, .int .i64 x.q, .string x.s, .int .i64 x.r] 26)).ownsRow w.heap.size 26 5 (.slice p3 k c3) k ((l.take k).flatMap vC)) := Lib.hid (((Ch.refl [] W0).alloc _).ownB HV.out (by simp))
      have HLK : Hid (k < 1000000) := Lib.hid (by have := HL.out; omega)
      go_wp2_with (at_builtin; refine wpList_append_own_at _ rfl _ _ 22 rfl w.heap.size 26 i0 (.agg #[.int .i64 0, .int .i64 0, .int .i64 0, .string ⟨#[]⟩, .int .i64 0]) 5 48 Try.underlying22 hi0 jz0 jz1 jz2 rfl (by decide) _ _ _ rfl HH.out ⟨W0.heap.size, 0, none⟩ 1 1 (vC x) rfl rfl (vC_at x _ _ rfl) (vC_one _) (by unfold maxLen; have := HLK.out; omega) (by have := HLK.out; omega) (by simp; omega) ?_)
      intro v5 w5 ho5 hg5 _ _
      obtain ⟨p5, c5, rfl⟩ := ownB_form ho5
      have HB5 : Hid (Ch [] w w5) := Lib.hid (Ch.fresh (HB.out.alloc _) (fun g hg => (own_lo HH.out hg).1) (Ch.of_grown hg5 (fun y e => mem_ob.2 e)))
      have HO5 : Hid (w5.ownsRow w.heap.size 26 5 (.slice p5 (k + 1) c5) (k + 1) ((l.take (k + 1)).flatMap vC)) := Lib.hid (by
        rw [HT.out, List.flatMap_append]; simpa using ho5)
      clear ho5 hg5
      go_wp2
      go_roundw
      case rel => exact ⟨k + 1, p5, c5, by omega, rfl, by go_num, HO5, HB5⟩
      case measure => simp [intOf]; omega
    · have hlt' : ¬ (k : Int) < (l.length : Int) := by omega
      obtain rfl : k = l.length := by omega
      have HV2 : Hid (Rw w.heap.size (.slice p3 l.length c3) l W0) := Lib.hid (by have := HV.out; rw [List.take_length] at this; exact this)
      go_wp2
      go_ret
      exact ⟨_, rfl, HV2.out, HB.out⟩
theorem large_any (p : Option Addr) (n c : Nat) (w : World) : Calls Try.prog 9 #[.slice p n c] w fun e w' => e = .returned (.bool (decide (600 < n))) ∧ w = w' := by
  by_cases h : 600 < n
  · have h' : (600 : Int) < (n : Int) := by omega
    have hd : decide (600 < n) = true := by simpa using h
    rw [hd]
    go_enter Try.func9, Try.ntmps9
    go_wp2
    go_ret
    exact ⟨rfl, rfl⟩
  · have h' : ¬ (600 : Int) < (n : Int) := by omega
    have hd : decide (600 < n) = false := by simpa using h
    rw [hd]
    go_enter Try.func9, Try.ntmps9
    go_wp2
    go_ret
    exact ⟨rfl, rfl⟩
theorem num_any (n : Int) (w : World) : Calls Try.prog 31 #[.int .i64 n] w fun e w' => e = .returned (.agg #[.int .i64 2, .int .i64 n, .int .i64 1, .string ⟨#[]⟩, .int .i64 0]) ∧ Ch [] w w' := by
  go_enter Try.func31, Try.ntmps31
  go_wp2
  refine bodyPost_ret (v := .agg #[.int .i64 2, .int .i64 n, .int .i64 1, .string ⟨#[]⟩, .int .i64 0]) (by simp [results, Try.results31, go_sem]) rfl ⟨rfl, ?_⟩
  exact (Ch.refl [] w).alloc _
end Go.Proofs.Ytdgdpckjcpgoaaa
