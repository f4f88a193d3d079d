/- Layer 19: lines of places. -/
import Derived.Test.YtimblnhigoggpaaDoorFlC
namespace Go.Proofs.YtimblnhigoggpaaDoor
open Go.RowKit Go.Joins M1
set_option linter.unusedVariables false
theorem info_str : (Tryd.prog.info? 9).map (fun i => (i.zero, i.size, i.bytes)) = some (some (.string ⟨#[]⟩), 1, 16) := by kernel_rfl
def sC (s : ByteArray) : List Value := [.string s]
def RS (B : Nat) (v : Value) (l : List ByteArray) (w : World) : Prop := w.ownsRow B 9 1 v l.length (l.map Value.string)
theorem RS.ch {B : Nat} {v : Value} {l : List ByteArray} {w w' : World} {S : List Nat} (h : RS B v l w) (hc : Ch S w w') (hS : ∀ g ∈ ob v, g ∉ S) : RS B v l w' := hc.ownB h hS
theorem RS.ch0 {B : Nat} {v : Value} {l : List ByteArray} {w w' : World} (h : RS B v l w) (hc : Ch [] w w') : RS B v l w' := hc.ownB h (fun g _ => not_nil g)
/-- What the line of a place needs. -/
def LnOk (w : World) (p : Pl) : Prop := (0 < p.l → It w p.l) ∧ p.n.size ≤ 1000000000000 ∧ (itB p.l).size ≤ 1000
theorem LnOk.on {w w' : World} {p : Pl} (h : LnOk w p) (hc : Ch [] w w') : LnOk w' p := ⟨fun q => (h.1 q).on hc, h.2⟩
def lnC (l : List Pl) (k : Nat) : List Value := ((l.take k).map lineB).map Value.string
theorem sC_at (x : ByteArray) (W : World) (n : Nat) (hn : n = W.heap.size) : ∀ j u, ([Value.string x])[j]? = some u → (W.alloc (.cells #[.string x] 9)).cell? ((⟨n, 0, none⟩ : Addr).add j) = some u := by
  subst hn
  intro j u hu
  have ha : (⟨W.heap.size, 0, none⟩ : Addr).add j = ⟨W.heap.size, j, none⟩ := by cases j <;> simp [Addr.add]
  rw [ha, Blk.cell (Blk.new W 9 #[.string x] _ rfl)]
  simpa using hu
theorem sC_one (x : ByteArray) : ∀ u ∈ [Value.string x], u.oneCell' = true := by
  intro u hu
  simp at hu
  subst hu; rfl
set_option maxHeartbeats 4000000 in
theorem lines_any (v : Value) (l : List Pl) (w : World) (h : PA w v l) (hl : l.length ≤ 1000000) (hP : ∀ p ∈ l, LnOk w p) :
    Calls Tryd.prog 36 #[v] w fun e w' => (∃ v', e = .returned v' ∧ RS w.heap.size v' (l.map lineB) w') ∧ Ch [] w w' := by
  have H := h
  obtain ⟨p, c, rfl, _, _⟩ := h
  have HK := Lib.hid H.cells
  have HL := Lib.hid hl
  have HP := Lib.hid hP
  obtain ⟨i0, hi0, jz0, jz1, jz2⟩ := info_parts info_str
  obtain ⟨W1, hr, hown, hg1⟩ := run_make_own (P := Tryd.prog) w w.heap.size 38 9 i0 _ 1 Tryd.underlying38 hi0 jz0 jz1 .i64 .i64 l.length (by rw [jz2]; omega) (by unfold maxLen; omega) (Nat.le_refl _)
  have HB1 : Hid (Ch [] w W1) := Lib.hid (Ch.of_grown hg1 (fun y e => by cases e))
  have HOW : Hid (W1.ownsRow w.heap.size 9 1 (.slice (some ⟨w.heap.size, 0, none⟩) 0 l.length) 0 (lnC l 0)) := Lib.hid hown
  clear H hl hP hown hg1
  obtain ⟨n, hn⟩ : ∃ n, n = l.length := ⟨_, rfl⟩
  have HNN := Lib.hid hn
  rw [← hn] at hr HOW ⊢
  clear hn
  go_enter Tryd.func36, Tryd.ntmps36
  go_wp2
  go_loopw [3, 11] (fun v3 v11 wr => ∃ (k : Nat) (p3 : Option Addr) (c3 : Nat), k ≤ n ∧ v3 = .slice p3 k c3 ∧ v11 = .int .i64 (k : Int) ∧ Hid (wr.ownsRow w.heap.size 9 1 (.slice p3 k c3) k (lnC l k)) ∧ Hid (Ch [] w wr)) (fun _ v11 _ => n - (intOf v11).toNat)
  case atStart => exact ⟨0, some ⟨w.heap.size, 0, none⟩, n, Nat.zero_le _, rfl, rfl, HOW, HB1⟩
  case round =>
    obtain ⟨k, p3, c3, hk, rfl, rfl, HV, HB⟩ := hrel
    rename World => W0
    by_cases hlt : k < n
    · have hlt' : (k : Int) < (n : Int) := by omega
      have hi0' : (0 : Int) ≤ (k : Int) := by omega
      have di : IntKind.i64.wrap ((k : Int) + 1) = (k : Int) + 1 := IntWalk.i64_in _ (by have := HL.out; have := HNN.out; omega)
      have hkl : k < l.length := by have := HNN.out; omega
      obtain ⟨g, o, rfl, hg, hcv⟩ := HK.out (by omega)
      obtain ⟨x, hx⟩ : ∃ x, x = l[k] := ⟨_, rfl⟩
      have m1 : ∀ j, j < 3 → W0.cell? ⟨g, o + k * 3 + j, none⟩ = (pC x)[j]? := fun j hj => (HB.out.below.cell (p := ⟨g, _, none⟩) hg).trans (by rw [hx]; exact hcv k j hkl hj)
      have hg2 : g < W0.heap.size := Nat.lt_of_lt_of_le hg HB.out.size
      have s0 : W0.cell? ⟨g, o + k * 3, none⟩ = some (.string x.n) := m1 0 (by omega)
      have s1 : W0.cell? ⟨g, o + k * 3 + 1, none⟩ = some (.int .i64 x.l) := m1 1 (by omega)
      have s2 : W0.cell? ⟨g, o + k * 3 + 2, none⟩ = some (.bool x.t) := m1 2 (by omega)
      have HT : Hid (lnC l (k + 1) = lnC l k ++ [.string (lineB x)]) := Lib.hid (by unfold lnC; rw [hx, List.take_succ_eq_append_getElem hkl, List.map_append, List.map_append]; rfl)
      have hok : LnOk w x := HP.out x (by rw [hx]; exact List.getElem_mem hkl)
      have QL : Hid (∀ W, Ch [] w W → Calls Tryd.prog 52 #[.agg #[.string x.n, .int .i64 x.l, .bool x.t]] W fun e w' => e = .returned (.string (lineB x)) ∧ Ch [] W w') := Lib.hid fun W hW => line_any x W (hok.on hW).1 hok.2.1 hok.2.2
      have HA : Hid (Ch [] w (W0.alloc (.cells #[.string x.n, .int .i64 x.l, .bool x.t] 44))) := Lib.hid (HB.out.alloc _)
      have HLK : Hid (k < 1000000) := Lib.hid (by have := HL.out; have := HNN.out; omega)
      have hsz := HB.out.size
      clear m1 hcv hx hok hkl
      go_upto_region 5 with fail
      generalize hLB : lineB x = lb at *
      clear hLB
      have HBX : Hid (Blk 44 W0.heap.size #[.string x.n, .int .i64 x.l, .bool x.t] (W0.alloc (.cells #[.string x.n, .int .i64 x.l, .bool x.t] 44))) := Lib.hid (Blk.new W0 _ _ _ rfl)
      have HVA := Lib.hid (((Ch.refl [] W0).alloc (.cells #[.string x.n, .int .i64 x.l, .bool x.t] 44)).ownB HV.out (fun g _ => not_nil g))
      generalize (W0.alloc (.cells #[.string x.n, .int .i64 x.l, .bool x.t] 44)) = WA at *
      have b0 : WA.cell? ⟨W0.heap.size, 0, none⟩ = some (.string x.n) := HBX.out.cell 0
      have b1 : WA.cell? ⟨W0.heap.size, 1, none⟩ = some (.int .i64 x.l) := HBX.out.cell 1
      have b2 : WA.cell? ⟨W0.heap.size, 2, none⟩ = some (.bool x.t) := HBX.out.cell 2
      have bl := HBX.out.lt
      go_wp2_with (first | (go_at_call 52; (with_reducible refine (QL.out _ HA.out).mono ?_); rintro e w1 ⟨rfl, hc⟩; have HC1 : Hid (Ch [] w w1) := Lib.hid (HA.out.trans hc); have HV1 := Lib.hid (hc.ownB HVA.out (fun g _ => not_nil g)); have HV2 := Lib.hid (((Ch.refl [] w1).alloc (.cells #[.string lb] 9)).ownB HV1.out (fun g _ => not_nil g)); have hsz1 := HC1.out.size; clear hc) | (at_builtin; refine wpList_append_own_at _ rfl _ _ 38 rfl w.heap.size 9 i0 (.string ⟨#[]⟩) 1 16 Tryd.underlying38 hi0 jz0 jz1 jz2 rfl (by decide) _ _ _ rfl HV2.out ⟨w1.heap.size, 0, none⟩ 1 1 [.string lb] rfl rfl (sC_at lb _ _ rfl) (sC_one _) (by unfold maxLen; have := HLK.out; omega) (by have := HLK.out; omega) (by simp; omega) ?_))
      intro v5 w5 ho5 hg5 _ _
      obtain ⟨p5, c5, rfl⟩ := ownB_form ho5
      have HB5 : Hid (Ch [] w w5) := Lib.hid (Ch.fresh (HC1.out.alloc _) (fun g hg => (own_lo HV2.out hg).1) (Ch.of_grown hg5 (fun y e => mem_ob.2 e)))
      have HO5 : Hid (w5.ownsRow w.heap.size 9 1 (.slice p5 (k + 1) c5) (k + 1) (lnC l (k + 1))) := Lib.hid (by rw [HT.out]; exact ho5)
      clear ho5 hg5
      go_wp2
      go_roundw
      case rel => exact ⟨k + 1, p5, c5, by omega, rfl, by go_num, HO5, HB5⟩
      case measure => simp [intOf]; omega
    · have hlt' : ¬ (k : Int) < (n : Int) := by omega
      have HV2 : Hid (RS w.heap.size (.slice p3 k c3) (l.map lineB) W0) := Lib.hid (by
        have := HV.out
        unfold lnC at this
        rw [List.take_of_length_le (by have := HNN.out; omega)] at this
        unfold RS
        rw [List.length_map, ← HNN.out, show n = k by omega]
        exact this)
      go_wp2
      go_ret
      exact ⟨⟨_, rfl, HV2.out⟩, HB.out⟩
end Go.Proofs.YtimblnhigoggpaaDoor
