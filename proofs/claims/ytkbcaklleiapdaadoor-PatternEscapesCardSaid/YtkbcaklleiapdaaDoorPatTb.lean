/- Contracts of layer 4: the statements' match. -/
import Derived.Test.YtkbcaklleiapdaaDoorPatBe
import Derived.Test.YtkbcaklleiapdaaDoorPatAa
import Derived.Deep.RegionHeld3
import Derived.Deep.AppendLies
import Derived.Deep.RegionLaw
import Derived.Test.YtkbcaklleiapdaaDoorPatBj
import Derived.Test.YtkbcaklleiapdaaDoorPatAm
import Derived.Test.YtkbcaklleiapdaaDoorCards
import Derived.Test.YtkbcaklleiapdaaDoorTie
import Derived.ProofKit
import Derived.OpenShut
import Derived.ChangeOld
import Derived.Below
import Derived.Lib.SmallJoins
import Derived.Deep.DeepHandedRow
import Derived.Stop.LaidErr
import Derived.Lib.LaidTab
import Derived.Lay
import Derived.MakeChecks
namespace Go.Proofs.YtkbcaklleiapdaaDoor
open Go.RowKit Go.Joins M4
set_option linter.unusedVariables false
/-- Pairs of indices in memory. -/
def IntR (w : World) (v : Value) (m : Caps) : Prop := ∃ p n c, v = .slice p n c ∧ n = 2 * m.length ∧ (0 < n → ∃ g, p = some ⟨g, 0, none⟩ ∧ g < w.heap.size ∧ ∀ k c, m[k]? = some c → w.cell? ⟨g, 2 * k, none⟩ = some (.int .i64 c.1) ∧ w.cell? ⟨g, 2 * k + 1, none⟩ = some (.int .i64 c.2))
theorem intR_nil (w : World) : IntR w (.slice none 0 0) [] := ⟨none, 0, 0, rfl, rfl, fun h => absurd h (by decide)⟩
/-- A match that is being made. -/
structure MS (A : Nat) (fr tt : Int) (m : Caps) (w : World) (p : Option Addr) (c : Nat) (wr : World) : Prop where
  res : Mtb A #[.int .i64 0, .int .i64 0, .slice none 0 0] wr
  box : Mtb (A + 1) #[.int .i64 fr, .int .i64 tt, .slice p m.length c] wr
  own : wr.ownsRow 0 43 2 (.slice p m.length c) m.length (capC m)
  bel : Below w.heap.size w wr
  lo : ∀ g ∈ ob (.slice p m.length c), A + 2 ≤ g
  hA : A = w.heap.size
/-- A world behind the append. -/
structure MG (A : Nat) (fr tt : Int) (kk : Nat) (w : World) (q : Option Addr) (d : Nat) (w1 : World) : Prop where
  res : Mtb A #[.int .i64 0, .int .i64 0, .slice none 0 0] w1
  box : Mtb (A + 1) #[.int .i64 fr, .int .i64 tt, .slice q kk d] w1
  bel : Below w.heap.size w w1
theorem MS.grown {A : Nat} {fr tt : Int} {m : Caps} {w : World} {q : Option Addr} {d kk : Nat} {W0 w1 : World} {o : Obj} (h : MS A fr tt m w q d W0) (hk : m.length = kk) (hg : (W0.drew.alloc o).grownBy w1 (Value.slice q kk d).ownBlock) : MG A fr tt kk w q d w1 := by
  subst hk
  have hc : Ch (ob (.slice q m.length d)) W0 w1 := (((Ch.refl [] W0).drew.alloc o).mono (by simp)).trans (Ch.of_grown hg (fun b e => mem_ob.2 e))
  refine ⟨h.res.ch hc fun e => ?_, h.box.ch hc fun e => ?_, ?_⟩
  · have := h.lo A e; omega
  · have := h.lo _ e; omega
  · have h1 := h.bel
    have h2 := h.hA
    exact ⟨hc.os.trans h1.os, hc.tape.trans h1.tape, hc.output.trans h1.output, Nat.le_trans h1.size hc.size, fun g hg => (hc.block g (Nat.lt_of_lt_of_le hg h1.size) (fun e => by have := h.lo g e; omega)).trans (h1.block g hg)⟩
theorem MG.next {A : Nat} {fr tt a b : Int} {m : Caps} {k kk d g1 cap H : Nat} {w : World} {q : Option Addr} {W0 w1 : World} (hM : MS A fr tt (m.take k) w q d W0) (hk : (m.take k).length = kk) (hx : m[k]? = some (a, b)) (hG : MG A fr tt kk w q d w1) (ho : w1.ownsRow 0 43 2 (.slice (some ⟨g1, 0, none⟩) (kk + 1) cap) (kk + 1) (capC (m.take k) ++ [.int .i64 a, .int .i64 b])) (hat : (Value.slice q kk d).ownBlock = some g1 ∨ g1 = H) (hH : W0.heap.size ≤ H) :
    MS A fr tt (m.take (k + 1)) w (some ⟨g1, 0, none⟩) cap (w1.setCell ⟨A + 1, 2, none⟩ (.slice (some ⟨g1, 0, none⟩) (kk + 1) cap)) := by
  have e : m.take (k + 1) = m.take k ++ [(a, b)] := by rw [List.take_add_one, hx]; rfl
  have el : (m.take (k + 1)).length = kk + 1 := by rw [e, List.length_append, hk]; rfl
  have ec : capC (m.take (k + 1)) = capC (m.take k) ++ [.int .i64 a, .int .i64 b] := by rw [e]; unfold capC; rw [List.flatMap_append]; rfl
  have hlo : A + 2 ≤ g1 := by
    rcases hat with h | h
    · subst hk; exact hM.lo g1 (mem_ob.2 h)
    · have := hM.box.lt; omega
  have hc : Ch [A + 1] w1 (w1.setCell ⟨A + 1, 2, none⟩ (.slice (some ⟨g1, 0, none⟩) (kk + 1) cap)) := (Ch.refl _ _).set _ _ _ (.inl (by simp))
  have h2 := hM.hA
  refine ⟨hG.res.ch hc (by simp), ?_, ?_, hG.bel.setCell (p := ⟨A + 1, 2, none⟩) (by show w.heap.size ≤ A + 1; omega) _, fun g hg => ?_, h2⟩
  · rw [el]; exact hG.box.set 2 _
  · rw [el, ec]
    exact hc.own ho (fun g hg e => by
      have h3 := mem_ob.1 hg
      obtain rfl : g1 = g := by simpa [Value.ownBlock] using h3
      simp at e; omega)
  · have h3 := mem_ob.1 hg
    obtain rfl : g1 = g := by simpa [Value.ownBlock] using h3
    exact hlo
set_option maxHeartbeats 4000000 in
set_option maxRecDepth 100000 in
theorem match_any (fr tt : Int) (v : Value) (m : Caps) (w : World) (h : IntR w v m) (hl : m.length ≤ 16) :
    Calls Tryd.prog 19 #[.int .i64 fr, .int .i64 tt, v] w fun e w' => (∃ p c, e = .returned (.agg #[.int .i64 fr, .int .i64 tt, .slice p m.length c]) ∧ w'.ownsRow 0 43 2 (.slice p m.length c) m.length (capC m)) ∧ Below w.heap.size w w' := by
  obtain ⟨p, n, c, rfl, hn, hR⟩ := h
  have hn6 : n ≤ 32 := by omega
  have HR := Lib.hid hR
  have HN := Lib.hid hn
  clear hR hn
  go_enter Tryd.func19, Tryd.ntmps19
  go_upto_region 2 with fail
  have hb2 : Below w.heap.size w ((w.alloc (.cells #[.int .i64 0, .int .i64 0, .slice none 0 0] 29)).alloc (.cells #[.int .i64 fr, .int .i64 tt, .slice none 0 0] 29)) := ((Below.refl _ _).alloc (Nat.le_refl _) _).alloc (by simp) _
  obtain ⟨W1, hW1⟩ : ∃ W1, ((w.alloc (.cells #[.int .i64 0, .int .i64 0, .slice none 0 0] 29)).alloc (.cells #[.int .i64 fr, .int .i64 tt, .slice none 0 0] 29)) = W1 := ⟨_, rfl⟩
  have hM1 : Mtb w.heap.size #[.int .i64 0, .int .i64 0, .slice none 0 0] W1 := by subst hW1; exact (mtb_new w _ _ rfl).ch ((Ch.refl [] _).alloc _) (by simp)
  have hM2 : Mtb (w.heap.size + 1) #[.int .i64 fr, .int .i64 tt, .slice none 0 0] W1 := by subst hW1; exact mtb_new _ _ _ (by simp)
  rw [hW1] at hb2
  (try rw [hW1])
  obtain ⟨A, hA⟩ : ∃ A, w.heap.size = A := ⟨_, rfl⟩
  have hMS : MS A fr tt (m.take 0) w none 0 W1 := ⟨by rw [← hA]; exact hM1, by rw [← hA]; exact hM2, World.ownsRow_nil _ _ _ _, hb2, (fun g hg => by rw [mem_ob] at hg; cases hg), hA.symm⟩
  simp only [hA]
  have HMS0 := Lib.hid hMS
  have HA := Lib.hid hA
  clear hW1 hb2 hM1 hM2 hMS hA
  go_wp2
  go_loopw [8] (fun v8 wr => ∃ i : Nat, i ≤ n ∧ v8 = .int .i64 (i : Int) ∧ Hid (∃ k q d, i = 2 * k ∧ MS A fr tt (m.take k) w q d wr)) (fun v8 _ => n - (intOf v8).toNat)
  case atStart => exact ⟨0, Nat.zero_le _, rfl, Lib.hid ⟨0, none, 0, rfl, HMS0.out⟩⟩
  case round =>
    obtain ⟨i, hi, rfl, HM⟩ := hrel
    rename World => W0
    obtain ⟨k, q, d, hik, hms⟩ := HM.out
    have HMS := Lib.hid hms
    have HIK := Lib.hid hik
    obtain ⟨j, hj⟩ : ∃ j, i + 1 = j := ⟨_, rfl⟩
    have q1 : (i : Int) + 1 = (j : Int) := by omega
    have q2 : IntKind.i64.wrap ((i : Int) + 1) = (j : Int) := by rw [q1, i64w _ (by omega)]
    have q3 : IntKind.i64.wrap (j : Int) = (j : Int) := i64w _ (by omega)
    by_cases hlt : i < n
    · have hjn : j < n := by have := HN.out; omega
      have hjd : decide ((j : Int) < (n : Int)) = true := decide_eq_true (by omega)
      have hjd2 : decide (j < n) = true := decide_eq_true hjn
      obtain ⟨i2, hi2⟩ : ∃ i2, i + 2 = i2 := ⟨_, rfl⟩
      have q4 : (i : Int) + 2 = (i2 : Int) := by omega
      have q5 : IntKind.i64.wrap ((i : Int) + 2) = (i2 : Int) := by rw [q4, i64w _ (by omega)]
      have hkl : k < m.length := by have := HN.out; omega
      obtain ⟨g, rfl, hg, hcell⟩ := HR.out (by omega)
      obtain ⟨x, hx⟩ : ∃ c, m[k]? = some c := ⟨m[k], List.getElem?_eq_getElem hkl⟩
      obtain ⟨x1, x2⟩ := hcell k x hx
      rw [← hik] at x1 x2
      rw [hj] at x2
      have c0 : W0.cell? ⟨g, i, none⟩ = some (.int .i64 x.1) := by rw [hms.bel.cell hg]; exact x1
      have c1 : W0.cell? ⟨g, j, none⟩ = some (.int .i64 x.2) := by rw [hms.bel.cell hg]; exact x2
      obtain ⟨a, b⟩ := x
      have f2 := hms.box.fz 2
      obtain ⟨kk, hkk⟩ : ∃ kk, (m.take k).length = kk := ⟨_, rfl⟩
      have d2 : W0.cell? ⟨A + 1, 2, none⟩ = some (.slice q kk d) := by rw [← hkk]; exact hms.box.cell 2
      have HKK := Lib.hid hkk
      have HX := Lib.hid hx
      have hA2 := hms.box.lt
      have HJ := Lib.hid hj
      have HI2 := Lib.hid hi2
      simp only [] at c0 c1
      clear x1 x2 hcell hx HR hms hkk hik hj hi2 HM
      have HOA : Hid (∀ o, (W0.drew.alloc o).ownsRow 0 43 2 (.slice q kk d) kk (capC (m.take k))) := Lib.hid fun o => by rw [← HKK.out]; exact ((Ch.refl [] W0).drew.alloc o).own HMS.out.own (by simp)
      obtain ⟨i0, hi0, jz0, jz1, jz2⟩ := info_parts info_cap
      have hkk16 : kk ≤ 16 := by have := HKK.out; rw [List.length_take] at this; omega
      go_upto_region 5 with fail
      go_region_law ((refine step_append_lies _ (by rfl) _ _ 27 (by rfl) 0 43 i0 (.agg #[.int .i64 0, .int .i64 0]) 2 16 Tryd.underlying27 hi0 jz0 jz1 jz2 rfl (by decide) _ kk (capC (m.take k)) (by rfl) (HOA.out _) ⟨W0.heap.size, 0, none⟩ 1 1 [.int .i64 a, .int .i64 b] (by rfl) (by rfl) (by intro j u' hj; match j, hj with | 0, hj => (simp at hj; subst hj; simp [Addr.add]) | 1, hj => (simp at hj; subst hj; simp [Addr.add])) (by intro u' hu'; simp at hu'; rcases hu' with rfl | rfl <;> rfl) (by decide) (by unfold maxLen; omega) (by omega) (Nat.zero_le _) _ (by rfl) ?_; intro g1 cap w1 hown1 hgrow hat hlt1; have HG := Lib.hid (HMS.out.grown HKK.out hgrow); have e2 := HG.out.box.cell 2; have e3 := HG.out.box.fz 2; have HO1 := Lib.hid hown1; have HGR := Lib.hid hgrow; have HAT := Lib.hid hat; clear hown1 hgrow hat))
      all_goals (
        have HN2 := Lib.hid (MG.next (g1 := g1) (cap := cap) HMS.out HKK.out HX.out HG.out HO1.out HAT.out (by simp))
        have h2n : i2 ≤ n := by have := HN.out; have := HIK.out; have := HI2.out; omega
        have HI3 : Hid (i2 = 2 * (k + 1)) := Lib.hid (by have := HIK.out; have := HI2.out; omega)
        have h2m : n - i2 < n - i := by have := HI2.out; omega
        clear e2 e3 HO1 HGR HAT HOA c0 c1 d2 f2 HG
        go_wp2
        go_roundw
        case rel => exact ⟨i2, h2n, rfl, Lib.hid ⟨k + 1, _, _, HI3.out, HN2.out⟩⟩
        case measure => exact h2m)
    · have hin : i = n := by omega
      have hjd : decide ((j : Int) < (n : Int)) = false := decide_eq_false (by omega)
      have hjd2 : decide (j < n) = false := decide_eq_false (by omega)
      have hkm : m.take k = m := List.take_of_length_le (by have := HN.out; omega)
      rw [hkm] at hms
      have a0 := hms.res.cell 0
      have a1 := hms.res.cell 1
      have a2 := hms.res.cell 2
      have b0 := hms.box.cell 0
      have b1 := hms.box.cell 1
      have b2 := hms.box.cell 2
      simp at a0 a1 a2 b0 b1 b2
      have z0 := hms.res.fz 0
      have z1 := hms.res.fz 1
      have z2 := hms.res.fz 2
      have HM2 := Lib.hid hms
      clear hms HMS hkm hin hlt HM hik HIK hj
      go_wp2
      show bodyPost _ _ _ Exit.ret _ (st3 W0 A (.int .i64 fr) (.int .i64 tt) (.slice q m.length d))
      have hI : Mtb A #[.int .i64 fr, .int .i64 tt, .slice q m.length d] (st3 W0 A (.int .i64 fr) (.int .i64 tt) (.slice q m.length d)) := st3_mt HM2.out.res
      have hS : Ch [A] W0 (st3 W0 A (.int .i64 fr) (.int .i64 tt) (.slice q m.length d)) := st3_ch
      have d0 := hI.cell 0
      have d1 := hI.cell 1
      have d2 := hI.cell 2
      simp at d0 d1 d2
      generalize st3 W0 A (.int .i64 fr) (.int .i64 tt) (.slice q m.length d) = W9 at *
      refine bodyPost_ret (v := .agg #[.int .i64 fr, .int .i64 tt, .slice q m.length d]) ?_ rfl ⟨⟨q, d, rfl, ?_⟩, ?_⟩
      · simp [results, Tryd.results19, go_sem, d0, d1, d2]
      · exact hS.own HM2.out.own (fun g hg e => by have := HM2.out.lo g hg; simp at e; omega)
      · have h1 := HM2.out.bel
        have h2 := HM2.out.hA
        exact ⟨hS.os.trans h1.os, hS.tape.trans h1.tape, hS.output.trans h1.output, Nat.le_trans h1.size hS.size, fun g hg => (hS.block g (Nat.lt_of_lt_of_le hg h1.size) (by simp; omega)).trans (h1.block g hg)⟩
end Go.Proofs.YtkbcaklleiapdaaDoor
namespace Go.Proofs.YtkbcaklleiapdaaDoor
open Go.RowKit Go.Joins M4
set_option linter.unusedVariables false
theorem aw_at (W : World) : Calls Tryd.prog 17 #[.string ⟨#[107, 101, 121, 61, 118, 97, 108]⟩, .string ⟨#[40, 37, 119, 43, 41, 61, 40, 37, 119, 42, 41]⟩, .int .i64 0] W fun e w' => (∃ p c, e = .returned (.tuple #[.agg #[.int .i64 0, .int .i64 7, .slice p 2 c], .bool true, .int .i64 0]) ∧ w'.ownsRow 0 43 2 (.slice p 2 c) 2 (capC [(0, 3), (4, 7)])) ∧ Below W.heap.size W w' := by
  have h := at_fn ⟨#[107, 101, 121, 61, 118, 97, 108]⟩ p1 0 W (by decide) (by decide) _ (read_of x1.1) (by decide)
  have hm : firstM (⟨#[107, 101, 121, 61, 118, 97, 108]⟩ : ByteArray).data.toList (pgOf p1.data.toList) 1 0 100000 = _ := mt_of x1.2.2
  rw [hm, x1.2.1] at h
  exact h.mono fun e w' ⟨⟨p, c, h1, h2, h3⟩, h4⟩ => ⟨⟨p, c, h1, h2⟩, h4⟩
theorem aw_find (W : World) : Calls Tryd.prog 20 #[.string ⟨#[102, 40, 97, 40, 98, 41, 99, 41, 100]⟩, .string ⟨#[37, 98, 40, 41]⟩, .int .i64 0] W fun e w' => (∃ p c, e = .returned (.tuple #[.agg #[.int .i64 1, .int .i64 8, .slice p 0 c], .bool true, .int .i64 0]) ∧ w'.ownsRow 0 43 2 (.slice p 0 c) 0 (capC [])) ∧ Below W.heap.size W w' := by
  have h := find_fn ⟨#[102, 40, 97, 40, 98, 41, 99, 41, 100]⟩ p2 0 W (by decide) (by decide) _ (read_of x2.1) (by decide)
  rw [if_neg (by rw [x2.2.2.1]; decide)] at h
  have hm : firstM (⟨#[102, 40, 97, 40, 98, 41, 99, 41, 100]⟩ : ByteArray).data.toList (pgOf p2.data.toList) ((⟨#[102, 40, 97, 40, 98, 41, 99, 41, 100]⟩ : ByteArray).size + 1 - 0) 0 100000 = _ := mt_of x2.2.2.2
  rw [hm, x2.2.1] at h
  exact h.mono fun e w' ⟨⟨p, c, h1, h2, h3⟩, h4⟩ => ⟨⟨p, c, h1, h2⟩, h4⟩
theorem gok_of {l : List UInt8} (h : okOf l = true) : Gok (pgOf l) := by
  obtain ⟨h1, h2, h3, _⟩ := readF_ok (read_of h)
  exact ⟨h1, h2, h3⟩
theorem a3 : ∃ ms, alln [104, 101, 108, 108, 111] (pgOf p3.data.toList) 0 none 100000 = some ms ∧ ms = [⟨2, 3, []⟩, ⟨3, 4, []⟩] := by
  have := y3
  split at this
  · rename_i ms h; exact ⟨ms, h, mts_of this⟩
  · cases this
theorem a4 : ∃ ms, alln [97, 97, 98] (pgOf p4.data.toList) 0 none 100000 = some ms ∧ ms = [⟨0, 2, []⟩, ⟨3, 3, []⟩] := by
  have := y4
  split at this
  · rename_i ms h; exact ⟨ms, h, mts_of this⟩
  · cases this
def isOk (r : Except Nat (List UInt8)) (l : List UInt8) : Bool := match r with
  | .ok t => t == l
  | .error _ => false
theorem ok_of {r : Except Nat (List UInt8)} {l : List UInt8} (h : isOk r l = true) : r = .ok l := by
  unfold isOk at h
  split at h
  · rw [beq_iff_eq.1 h]
  · cases h
theorem z3 : isOk (replE [104, 101, 108, 108, 111] [91, 37, 48, 93] [⟨2, 3, []⟩] 0 []) [104, 101, 91, 108, 93, 108, 111] = true := by decide +kernel
theorem aw_repl (W : World) (hT : Tab W) : Calls Tryd.prog 22 #[.string ⟨#[104, 101, 108, 108, 111]⟩, .string ⟨#[108]⟩, .string ⟨#[91, 37, 48, 93]⟩, .int .i64 1] W fun e w' => e = .returned (.tuple #[.string ⟨#[104, 101, 91, 108, 93, 108, 111]⟩, .int .i64 1, .int .i64 0]) ∧ Below W.heap.size W w' := by
  obtain ⟨ms, hall, hms⟩ := a3
  have h := replace_ok ⟨#[104, 101, 108, 108, 111]⟩ p3 ⟨#[91, 37, 48, 93]⟩ 1 W (by decide) (by decide) 1 (fun _ => by decide) _ (read_of x3) (gok_of x3) ms hall (all_asc _ _ _ _ _ (Nat.le_refl _) hall) (by rw [hms]; decide) hT (.inr (.inr ⟨rfl, by rw [hms]; decide⟩))
  have hr : replE (⟨#[104, 101, 108, 108, 111]⟩ : ByteArray).data.toList (⟨#[91, 37, 48, 93]⟩ : ByteArray).data.toList (ms.take 1) 0 [] = .ok [104, 101, 91, 108, 93, 108, 111] := by rw [hms]; exact ok_of z3
  rw [hr] at h
  exact h
theorem aw_all (W : World) : Calls Tryd.prog 21 #[.string ⟨#[97, 97, 98]⟩, .string ⟨#[97, 42]⟩] W fun e w' => (∃ g c q0 d0 q1 d1, e = .returned (.tuple #[.slice (some ⟨g, 0, none⟩) 2 c, .int .i64 0]) ∧ g < w'.heap.size ∧ w'.cell? ⟨g, 0, none⟩ = some (.int .i64 0) ∧ w'.cell? ⟨g, 1, none⟩ = some (.int .i64 2) ∧ w'.cell? ⟨g, 2, none⟩ = some (.slice q0 0 d0) ∧ w'.cell? ⟨g, 3, none⟩ = some (.int .i64 3) ∧ w'.cell? ⟨g, 4, none⟩ = some (.int .i64 3) ∧ w'.cell? ⟨g, 5, none⟩ = some (.slice q1 0 d1) ∧ w'.ownsRow 0 43 2 (.slice q0 0 d0) 0 (capC []) ∧ w'.ownsRow 0 43 2 (.slice q1 0 d1) 0 (capC [])) ∧ Below W.heap.size W w' := by
  obtain ⟨ms, hall, hms⟩ := a4
  have h := all_ok ⟨#[97, 97, 98]⟩ p4 W (by decide) (by decide) _ (read_of x4)
  have hr : alln (⟨#[97, 97, 98]⟩ : ByteArray).data.toList (pgOf p4.data.toList) 0 none 100000 = some ms := hall
  rw [hr] at h
  have hc : (pgOf p4.data.toList).caps = 0 := by decide +kernel
  rw [hc] at h
  refine h.mono fun e w' ⟨⟨p, c, vs, h1, h2⟩, h4⟩ => ⟨?_, h4⟩
  obtain ⟨g, hp, hg, hrd⟩ := mts_read h2 rfl (by rw [hms]; intro m hm; simp at hm; rcases hm with rfl | rfl <;> rfl) (by rw [hms]; decide)
  subst hms hp
  obtain ⟨q0, d0, b0, b1, b2, -, o0⟩ := hrd 0 _ rfl
  obtain ⟨q1, d1, b3, b4, b5, -, o1⟩ := hrd 1 _ rfl
  exact ⟨g, c, q0, d0, q1, d1, h1, hg, b0, b1, b2, b3, b4, b5, o0, o1⟩
theorem ecode_of {l : List UInt8} {n : Nat} (h : (ecode (readF l) == n) = true) : ecode (readF l) = n := beq_iff_eq.1 h
theorem aw_check1 (W : World) : Calls Tryd.prog 11 #[.string ⟨#[40, 97]⟩] W fun e w' => e = .returned (.int .i64 4) ∧ Below W.heap.size W w' := by
  have h := check_any ⟨#[40, 97]⟩ W (by decide)
  have hr : ecode (readF (⟨#[40, 97]⟩ : ByteArray).data.toList) = 4 := ecode_of (by decide +kernel)
  rw [hr] at h
  exact h
theorem aw_check2 (W : World) : Calls Tryd.prog 11 #[.string ⟨#[97, 42, 42]⟩] W fun e w' => e = .returned (.int .i64 0) ∧ Below W.heap.size W w' := by
  have h := check_any ⟨#[97, 42, 42]⟩ W (by decide)
  have hr : ecode (readF (⟨#[97, 42, 42]⟩ : ByteArray).data.toList) = 0 := ecode_of (by decide +kernel)
  rw [hr] at h
  exact h
theorem aw_esc (W : World) : Calls Tryd.prog 15 #[.string ⟨#[97, 46, 98]⟩] W fun e w' => e = .returned (.string ⟨#[97, 37, 46, 98]⟩) ∧ Below W.heap.size W w' := by
  have h := escape_any ⟨#[97, 46, 98]⟩ W (by decide)
  have hr : escF (⟨#[97, 46, 98]⟩ : ByteArray).data.toList = [97, 37, 46, 98] := by decide +kernel
  rw [hr] at h
  exact h
end Go.Proofs.YtkbcaklleiapdaaDoor
namespace Go.Proofs.YtkbcaklleiapdaaDoor
open Go.RowKit Go.Joins M4
set_option linter.unusedVariables false
theorem hidA {n : Nat} {W5 W : World} {o : Obj} (h : Hid (Below n W5 W)) (hn : n ≤ W5.heap.size) : Hid (Below n W5 (W.alloc o)) := Lib.hid (h.out.alloc (Nat.le_trans hn h.out.size) o)
theorem hidD {n : Nat} {W5 W : World} (h : Hid (Below n W5 W)) : Hid (Below n W5 W.drew) := Lib.hid h.out.drew
theorem cells_get {w : World} {b : Nat} {cs : Array Value} {t : TypeId} (h : w.heap[b]? = some (.cells cs t (0, 0))) (i : Nat) : w.cell? ⟨b, i, none⟩ = cs[i]? := by simp [World.cell?, h]
theorem ints_row (W : World) : IntR (W.alloc (.cells #[.int .i64 0, .int .i64 3, .int .i64 4, .int .i64 7] 3)).drew (.slice (some ⟨W.heap.size, 0, none⟩) 4 4) [(0, 3), (4, 7)] :=
  ⟨_, 4, 4, rfl, rfl, fun _ => ⟨W.heap.size, rfl, by simp, fun k c hk => by
    have hb : (W.alloc (.cells #[.int .i64 0, .int .i64 3, .int .i64 4, .int .i64 7] 3)).drew.heap[W.heap.size]? = _ := heap_alloc_new W (.cells #[.int .i64 0, .int .i64 3, .int .i64 4, .int .i64 7] 3)
    match k, hk with
    | 0, hk => simp at hk; subst hk; exact ⟨cells_get hb 0, cells_get hb 1⟩
    | 1, hk => simp at hk; subst hk; exact ⟨cells_get hb 2, cells_get hb 3⟩⟩⟩
set_option maxHeartbeats 16000000 in
set_option maxRecDepth 100000 in
theorem awake_any (w : World) (hT : Tab w) : Calls Tryd.prog 10 #[] w fun e w' => e = .returned (.bool true) ∧ Below w.heap.size w w' := by
  have HT := Lib.hid hT
  clear hT
  go_enter Tryd.func10, Tryd.ntmps10
  go_upto_region 2 with (go_at_call 17; (with_reducible refine (aw_at _).mono ?_); rintro e wa ⟨⟨pa, ca, rfl, oa⟩, hba⟩)
  obtain ⟨V1, hV1⟩ : ∃ V1, wa.alloc (.cells #[.int .i64 0, .int .i64 7, .slice pa 2 ca] 29) = V1 := ⟨_, rfl⟩
  obtain ⟨X1, hX1⟩ : ∃ X1, wa.heap.size = X1 := ⟨_, rfl⟩
  have HM1 : Hid (Mtb X1 #[.int .i64 0, .int .i64 7, .slice pa 2 ca] V1) := Lib.hid (by rw [← hV1, ← hX1]; exact mtb_new _ _ _ rfl)
  have HC1 : Hid (Ch [] wa V1) := Lib.hid (by rw [← hV1]; exact (Ch.refl _ _).alloc _)
  rw [hV1]
  simp only [hX1]
  have HOA := Lib.hid (HC1.out.own oa (by simp))
  have HB1 := Lib.hid (hba.trans (HC1.out.below.mono hba.size))
  clear hV1 hX1 oa hba
  go_upto_region 3 with (go_at_call 20; (with_reducible refine (aw_find _).mono ?_); rintro e wb ⟨⟨pb, cb, rfl, ob1⟩, hbb⟩)
  obtain ⟨V2, hV2⟩ : ∃ V2, wb.alloc (.cells #[.int .i64 1, .int .i64 8, .slice pb 0 cb] 29) = V2 := ⟨_, rfl⟩
  obtain ⟨X4, hX4⟩ : ∃ X4, wb.heap.size = X4 := ⟨_, rfl⟩
  have HM4 : Hid (Mtb X4 #[.int .i64 1, .int .i64 8, .slice pb 0 cb] V2) := Lib.hid (by rw [← hV2, ← hX4]; exact mtb_new _ _ _ rfl)
  have HC2 : Hid (Ch [] V1 V2) := Lib.hid (by rw [← hV2]; exact (Ch.of_below hbb).trans ((Ch.refl _ _).alloc _))
  have HOB : Hid (V2.ownsRow 0 43 2 (.slice pb 0 cb) 0 (capC [])) := Lib.hid (by rw [← hV2]; exact ((Ch.refl [] _).alloc _).own ob1 (by simp))
  rw [hV2]
  simp only [hX4]
  have HB2 := Lib.hid (HB1.out.trans (HC2.out.below.mono HB1.out.size))
  have HT2 := Lib.hid (tab_below HT.out HB2.out)
  clear hV2 hX4 ob1 hbb
  go_upto_region 4 with (go_at_call 22; (with_reducible refine (aw_repl _ HT2.out).mono ?_); rintro e w4 ⟨rfl, hb4⟩)
  have HC4 : Hid (Ch [] V2 w4) := Lib.hid (Ch.of_below hb4)
  clear hb4
  go_upto_region 5 with (go_at_call 21; (with_reducible refine (aw_all _).mono ?_); rintro e W5 ⟨⟨gl, cl, q0, d0, q1, d1, rfl, hgl, l0, l1, l2, l3, l4, l5, o0, o1⟩, hb5⟩)
  have HC5 : Hid (Ch [] V2 W5) := Lib.hid (HC4.out.trans (Ch.of_below hb5))
  have HC15 : Hid (Ch [] V1 W5) := Lib.hid (HC2.out.trans HC5.out)
  have HB5 : Hid (Below w.heap.size w W5) := Lib.hid (HB2.out.trans (HC5.out.below.mono HB2.out.size))
  have HA5 := Lib.hid (HC15.out.own HOA.out (by simp))
  have HOB5 := Lib.hid (HC5.out.own HOB.out (by simp))
  have HO0 := Lib.hid o0
  have HO1 := Lib.hid o1
  have m1 := HM1.out.ch HC15.out (by simp)
  have m4 := HM4.out.ch HC5.out (by simp)
  have HK : Hid (∀ W, Hid (Below W5.heap.size W5 W) → W.cell? ⟨X1, 0, none⟩ = some (.int .i64 0) ∧ W.cell? ⟨X1, 1, none⟩ = some (.int .i64 7) ∧ W.cell? ⟨X1, 2, none⟩ = some (.slice pa 2 ca) ∧ W.cell? ⟨X4, 0, none⟩ = some (.int .i64 1) ∧ W.cell? ⟨X4, 1, none⟩ = some (.int .i64 8) ∧ W.cell? ⟨X4, 2, none⟩ = some (.slice pb 0 cb) ∧ W.cell? ⟨gl, 0, none⟩ = some (.int .i64 0) ∧ W.cell? ⟨gl, 1, none⟩ = some (.int .i64 2) ∧ W.cell? ⟨gl, 2, none⟩ = some (.slice q0 0 d0) ∧ W.cell? ⟨gl, 3, none⟩ = some (.int .i64 3) ∧ W.cell? ⟨gl, 4, none⟩ = some (.int .i64 3) ∧ W.cell? ⟨gl, 5, none⟩ = some (.slice q1 0 d1) ∧ Hid (Below W5.heap.size W5 W)) := Lib.hid fun W hb => by
    refine ⟨?_, ?_, ?_, ?_, ?_, ?_, ?_, ?_, ?_, ?_, ?_, ?_, hb⟩
    · rw [hb.out.cell m1.lt]; exact m1.cell 0
    · rw [hb.out.cell m1.lt]; exact m1.cell 1
    · rw [hb.out.cell m1.lt]; exact m1.cell 2
    · rw [hb.out.cell m4.lt]; exact m4.cell 0
    · rw [hb.out.cell m4.lt]; exact m4.cell 1
    · rw [hb.out.cell m4.lt]; exact m4.cell 2
    · rw [hb.out.cell hgl]; exact l0
    · rw [hb.out.cell hgl]; exact l1
    · rw [hb.out.cell hgl]; exact l2
    · rw [hb.out.cell hgl]; exact l3
    · rw [hb.out.cell hgl]; exact l4
    · rw [hb.out.cell hgl]; exact l5
  have H0 : Hid (Below W5.heap.size W5 W5) := Lib.hid (Below.refl _ _)
  clear l0 l1 l2 l3 l4 l5 o0 o1 hb5 m1 m4 HM1 HM4 HOA HOB HC1 HC2 HC4 HC5 HC15 HB1 HB2 HT2 hgl
  have SA : Hid (∀ W p c, Hid (Below W5.heap.size W5 W) → Hid (W.ownsRow 0 43 2 (.slice p 2 c) 2 (capC [(0, 3), (4, 7)])) → Calls Tryd.prog 18 #[.agg #[.int .i64 0, .int .i64 7, .slice pa 2 ca], .agg #[.int .i64 0, .int .i64 7, .slice p 2 c]] W fun e w' => e = .returned (.bool true) ∧ Hid (Below W5.heap.size W5 w')) := Lib.hid fun W p c hb ho => (same_yes 0 7 pa p 2 ca c [(0, 3), (4, 7)] W rfl (by decide) ((Ch.of_below (S := []) hb.out).own HA5.out (by simp)) ho.out).mono fun e w' ⟨h1, h2⟩ => ⟨h1, Lib.hid (hb.out.trans (h2.mono hb.out.size))⟩
  have SB : Hid (∀ W p c, Hid (Below W5.heap.size W5 W) → Hid (W.ownsRow 0 43 2 (.slice p 0 c) 0 (capC [])) → Calls Tryd.prog 18 #[.agg #[.int .i64 1, .int .i64 8, .slice pb 0 cb], .agg #[.int .i64 1, .int .i64 8, .slice p 0 c]] W fun e w' => e = .returned (.bool true) ∧ Hid (Below W5.heap.size W5 w')) := Lib.hid fun W p c hb ho => (same_yes 1 8 pb p 0 cb c [] W rfl (by decide) ((Ch.of_below (S := []) hb.out).own HOB5.out (by simp)) ho.out).mono fun e w' ⟨h1, h2⟩ => ⟨h1, Lib.hid (hb.out.trans (h2.mono hb.out.size))⟩
  have SC : Hid (∀ W p c, Hid (Below W5.heap.size W5 W) → Hid (W.ownsRow 0 43 2 (.slice p 0 c) 0 (capC [])) → Calls Tryd.prog 18 #[.agg #[.int .i64 0, .int .i64 2, .slice q0 0 d0], .agg #[.int .i64 0, .int .i64 2, .slice p 0 c]] W fun e w' => e = .returned (.bool true) ∧ Hid (Below W5.heap.size W5 w')) := Lib.hid fun W p c hb ho => (same_yes 0 2 q0 p 0 d0 c [] W rfl (by decide) ((Ch.of_below (S := []) hb.out).own HO0.out (by simp)) ho.out).mono fun e w' ⟨h1, h2⟩ => ⟨h1, Lib.hid (hb.out.trans (h2.mono hb.out.size))⟩
  have SD : Hid (∀ W p c, Hid (Below W5.heap.size W5 W) → Hid (W.ownsRow 0 43 2 (.slice p 0 c) 0 (capC [])) → Calls Tryd.prog 18 #[.agg #[.int .i64 3, .int .i64 3, .slice q1 0 d1], .agg #[.int .i64 3, .int .i64 3, .slice p 0 c]] W fun e w' => e = .returned (.bool true) ∧ Hid (Below W5.heap.size W5 w')) := Lib.hid fun W p c hb ho => (same_yes 3 3 q1 p 0 d1 c [] W rfl (by decide) ((Ch.of_below (S := []) hb.out).own HO1.out (by simp)) ho.out).mono fun e w' ⟨h1, h2⟩ => ⟨h1, Lib.hid (hb.out.trans (h2.mono hb.out.size))⟩
  have MA : Hid (Calls Tryd.prog 19 #[.int .i64 0, .int .i64 7, .slice (some ⟨W5.heap.size, 0, none⟩) 4 4] (W5.alloc (.cells #[.int .i64 0, .int .i64 3, .int .i64 4, .int .i64 7] 3)).drew fun e w' => (∃ p c, e = .returned (.agg #[.int .i64 0, .int .i64 7, .slice p 2 c]) ∧ Hid (w'.ownsRow 0 43 2 (.slice p 2 c) 2 (capC [(0, 3), (4, 7)]))) ∧ Hid (Below W5.heap.size W5 w')) := Lib.hid ((match_any 0 7 _ [(0, 3), (4, 7)] _ (ints_row W5) (by decide)).mono fun e w' ⟨⟨p, c, h1, h2⟩, h3⟩ => ⟨⟨p, c, h1, Lib.hid h2⟩, Lib.hid ((((H0.out.alloc (Nat.le_refl _) _).drew).trans (h3.mono (by simp))))⟩)
  have MB : Hid (∀ W, Hid (Below W5.heap.size W5 W) → Calls Tryd.prog 19 #[.int .i64 1, .int .i64 8, .slice none 0 0] W fun e w' => (∃ p c, e = .returned (.agg #[.int .i64 1, .int .i64 8, .slice p 0 c]) ∧ Hid (w'.ownsRow 0 43 2 (.slice p 0 c) 0 (capC []))) ∧ Hid (Below W5.heap.size W5 w')) := Lib.hid fun W hb => (match_any 1 8 _ [] W (intR_nil W) (by decide)).mono fun e w' ⟨⟨p, c, h1, h2⟩, h3⟩ => ⟨⟨p, c, h1, Lib.hid h2⟩, Lib.hid (hb.out.trans (h3.mono hb.out.size))⟩
  have MC : Hid (∀ W, Hid (Below W5.heap.size W5 W) → Calls Tryd.prog 19 #[.int .i64 0, .int .i64 2, .slice none 0 0] W fun e w' => (∃ p c, e = .returned (.agg #[.int .i64 0, .int .i64 2, .slice p 0 c]) ∧ Hid (w'.ownsRow 0 43 2 (.slice p 0 c) 0 (capC []))) ∧ Hid (Below W5.heap.size W5 w')) := Lib.hid fun W hb => (match_any 0 2 _ [] W (intR_nil W) (by decide)).mono fun e w' ⟨⟨p, c, h1, h2⟩, h3⟩ => ⟨⟨p, c, h1, Lib.hid h2⟩, Lib.hid (hb.out.trans (h3.mono hb.out.size))⟩
  have MD : Hid (∀ W, Hid (Below W5.heap.size W5 W) → Calls Tryd.prog 19 #[.int .i64 3, .int .i64 3, .slice none 0 0] W fun e w' => (∃ p c, e = .returned (.agg #[.int .i64 3, .int .i64 3, .slice p 0 c]) ∧ Hid (w'.ownsRow 0 43 2 (.slice p 0 c) 0 (capC []))) ∧ Hid (Below W5.heap.size W5 w')) := Lib.hid fun W hb => (match_any 3 3 _ [] W (intR_nil W) (by decide)).mono fun e w' ⟨⟨p, c, h1, h2⟩, h3⟩ => ⟨⟨p, c, h1, Lib.hid h2⟩, Lib.hid (hb.out.trans (h3.mono hb.out.size))⟩
  have C1 : Hid (∀ W, Hid (Below W5.heap.size W5 W) → Calls Tryd.prog 11 #[.string ⟨#[40, 97]⟩] W fun e w' => e = .returned (.int .i64 4) ∧ Hid (Below W5.heap.size W5 w')) := Lib.hid fun W hb => (aw_check1 W).mono fun e w' ⟨h1, h2⟩ => ⟨h1, Lib.hid (hb.out.trans (h2.mono hb.out.size))⟩
  have C2 : Hid (∀ W, Hid (Below W5.heap.size W5 W) → Calls Tryd.prog 11 #[.string ⟨#[97, 42, 42]⟩] W fun e w' => e = .returned (.int .i64 0) ∧ Hid (Below W5.heap.size W5 w')) := Lib.hid fun W hb => (aw_check2 W).mono fun e w' ⟨h1, h2⟩ => ⟨h1, Lib.hid (hb.out.trans (h2.mono hb.out.size))⟩
  have E1 : Hid (∀ W, Hid (Below W5.heap.size W5 W) → Calls Tryd.prog 15 #[.string ⟨#[97, 46, 98]⟩] W fun e w' => e = .returned (.string ⟨#[97, 37, 46, 98]⟩) ∧ Hid (Below W5.heap.size W5 w')) := Lib.hid fun W hb => (aw_esc W).mono fun e w' ⟨h1, h2⟩ => ⟨h1, Lib.hid (hb.out.trans (h2.mono hb.out.size))⟩
  go_upto_region 7 with fail
  go_region_held3 (fun W => W.cell? ⟨X1, 0, none⟩ = some (.int .i64 0) ∧ W.cell? ⟨X1, 1, none⟩ = some (.int .i64 7) ∧ W.cell? ⟨X1, 2, none⟩ = some (.slice pa 2 ca) ∧ W.cell? ⟨X4, 0, none⟩ = some (.int .i64 1) ∧ W.cell? ⟨X4, 1, none⟩ = some (.int .i64 8) ∧ W.cell? ⟨X4, 2, none⟩ = some (.slice pb 0 cb) ∧ W.cell? ⟨gl, 0, none⟩ = some (.int .i64 0) ∧ W.cell? ⟨gl, 1, none⟩ = some (.int .i64 2) ∧ W.cell? ⟨gl, 2, none⟩ = some (.slice q0 0 d0) ∧ W.cell? ⟨gl, 3, none⟩ = some (.int .i64 3) ∧ W.cell? ⟨gl, 4, none⟩ = some (.int .i64 3) ∧ W.cell? ⟨gl, 5, none⟩ = some (.slice q1 0 d1) ∧ Hid (Below W5.heap.size W5 W)) (first | exact HK.out _ (hidD H0) | exact HK.out _ (by assumption) | exact HK.out _ (hidA (hidD H0) (Nat.le_refl _)) | exact HK.out _ (hidD (hidA H0 (Nat.le_refl _)))) ((first | (go_at_call 19; (with_reducible refine MA.out.mono ?_); rintro e w9 ⟨⟨p9, c9, rfl, ho9⟩, hb9⟩) | (go_at_call 19; (with_reducible refine (MB.out _ (by assumption)).mono ?_); rintro e w9 ⟨⟨p9, c9, rfl, ho9⟩, hb9⟩) | (go_at_call 19; (with_reducible refine (MC.out _ (by assumption)).mono ?_); rintro e w9 ⟨⟨p9, c9, rfl, ho9⟩, hb9⟩) | (go_at_call 19; (with_reducible refine (MD.out _ (by assumption)).mono ?_); rintro e w9 ⟨⟨p9, c9, rfl, ho9⟩, hb9⟩) | (go_at_call 18; (with_reducible refine (SA.out _ _ _ (by assumption) (by assumption)).mono ?_); rintro e w9 ⟨rfl, hb9⟩) | (go_at_call 18; (with_reducible refine (SB.out _ _ _ (by assumption) (by assumption)).mono ?_); rintro e w9 ⟨rfl, hb9⟩) | (go_at_call 18; (with_reducible refine (SC.out _ _ _ (by assumption) (by assumption)).mono ?_); rintro e w9 ⟨rfl, hb9⟩) | (go_at_call 18; (with_reducible refine (SD.out _ _ _ (by assumption) (by assumption)).mono ?_); rintro e w9 ⟨rfl, hb9⟩) | (go_at_call 11; (with_reducible refine (C1.out _ (by assumption)).mono ?_); rintro e w9 ⟨rfl, hb9⟩) | (go_at_call 11; (with_reducible refine (C2.out _ (by assumption)).mono ?_); rintro e w9 ⟨rfl, hb9⟩) | (go_at_call 15; (with_reducible refine (E1.out _ (by assumption)).mono ?_); rintro e w9 ⟨rfl, hb9⟩)))
  all_goals (
    go_wp2
    go_ret
    refine ⟨rfl, HB5.out.trans (Below.mono (B := W5.heap.size) ?_ HB5.out.size)⟩
    exact Hid.out (by assumption))
end Go.Proofs.YtkbcaklleiapdaaDoor
namespace Go.Proofs.YtkbcaklleiapdaaDoor
open Go.ChangeShapes Go.WideShapes Go.ChangeAt Go.RowKit Go.Joins M4
set_option linter.unusedVariables false
theorem own : ownKnob Tryd.prog.godebug = none := by kernel_rfl
abbrev L5 : List (String × DataW Unit) := Rows.patternChecksRow.laid
theorem env {W : World} (hL : laidMetH Tryd.prog L5 W) : Tab W := by
  rw [MakeChecks.laidMetH_plain _ _ _ (by kernel_rfl)] at hL
  exact Lib.tabIs_of_head (k := .u64) (zs := Lib.pow10Tab) (n := 20) (rest := L5.drop 3) (show Tryd.prog.globalNamed "internal/strconv.uint64pow10" = some 1 by kernel_rfl) (by kernel_rfl) Tryd.underlying146 Tryd.underlying129 (by kernel_rfl) (by kernel_rfl) hL.tail.tail
theorem laid_met (os : Os) (args : Array Value) : laidMetH Tryd.prog L5 ((World.laidAll Tryd.prog os L5).forCall (fun _ _ => 0) ⟨#[], args, []⟩).memory := by
  rw [MakeChecks.laidMetH_plain _ _ _ (by kernel_rfl)]
  exact laidMet_laidAll _ (by kernel_rfl) (by kernel_rfl)
theorem wit_shaped (os : Os) (args : Array Value) : ((World.laidAll Tryd.prog os L5).forCall (fun _ _ => 0) ⟨#[], args, []⟩).Shaped Tryd.prog :=
  World.shaped_of_ZipB (by kernel_rfl) (by kernel_rfl)
end Go.Proofs.YtkbcaklleiapdaaDoor
namespace Go.Proofs.YtkbcaklleiapdaaDoor
open Go.RowKit Go.Joins M4
set_option linter.unusedVariables false
theorem item_err {l : List UInt8} {k : Nat} {sts opn : List Nat} {c : Nat} (h : itemF l k sts opn = .error c) : c = 3 ∨ c = 4 := by
  unfold itemF singleF at h
  repeat' split at h
  all_goals first
    | (cases h; done)
    | (cases h; first | exact .inl rfl | exact .inr rfl)
    | (rename_i h2; split at h2 <;> first | (cases h2; cases h; exact .inr rfl) | (cases h2; done))
theorem end_err {sts opn : List Nat} {its : List Itm} {a b : Bool} {c : Nat} (h : endF sts opn its a b = .error c) : c = 3 ∨ c = 4 := by
  unfold endF at h
  split at h
  · cases h
  · cases h; exact .inr rfl
theorem loop_err (l : List UInt8) (start : Bool) : ∀ (f k : Nat) (sts opn : List Nat) (its : List Itm) (c : Nat), k ≤ l.length → l.length < f + k → loopF l start f k sts opn its = .error c → c = 3 ∨ c = 4
  | 0, k, _, _, _, _, h1, h2, _ => by omega
  | f + 1, k, sts, opn, its, c, h1, h2, h => by
    unfold loopF at h
    split at h
    · split at h
      · exact end_err h
      · split at h
        · rename_i e he; cases h; exact item_err he
        · rename_i r he
          obtain ⟨g1, g2⟩ := item_lt he
          exact loop_err l start f _ _ _ _ c g2 (by omega) h
    · exact end_err h
theorem read_err {l : List UInt8} {c : Nat} (h : readF l = .error c) : c = 3 ∨ c = 4 := by
  unfold readF at h
  refine loop_err l _ _ _ _ _ _ c ?_ (by split <;> omega) h
  split
  · rename_i h0; have := (List.getElem?_eq_some_iff.1 h0).1; omega
  · omega
theorem asc_len1 {s : List UInt8} {g : Pg} (hg : Gok g) : ∀ (ms : List Mt) (i : Nat), Asc s g (some i) i ms → i ≤ s.length → ms.length + i ≤ s.length
  | [], i, _, h => by simpa using h
  | m :: ms, i, h, hi => by
    obtain ⟨h1, h2, h3, h4, h5, h6⟩ := h
    have hm := atM_ok hg h5 h3
    have l1 := hm.le
    have l2 := hm.hi
    simp only [] at l1 l2
    have h7 : i ≠ m.to := fun e => h2 (by rw [e])
    have := asc_len1 hg ms m.to h6 l2
    rw [List.length_cons]; omega
theorem asc_len {s : List UInt8} {g : Pg} (hg : Gok g) (ms : List Mt) (h : Asc s g none 0 ms) : ms.length ≤ s.length + 1 := by
  cases ms with
  | nil => simp
  | cons m ms =>
    obtain ⟨h1, h2, h3, h4, h5, h6⟩ := h
    have hm := atM_ok hg h5 h3
    have l2 := hm.hi
    simp only [] at l2
    have := asc_len1 hg ms m.to h6 l2
    rw [List.length_cons]; omega
theorem gok_read {l : List UInt8} {g : Pg} (h : readF l = .ok g) : Gok g := by
  obtain ⟨h1, h2, h3, _⟩ := readF_ok h
  exact ⟨h1, h2, h3⟩
/-- What All answers: the matches, or an error. -/
theorem all_two (s p : ByteArray) (hp : p.size ≤ 1000000) (hs : s.size ≤ 1000000) :
    (∃ c : Nat, 0 < c ∧ ∀ W, Calls Tryd.prog 21 #[.string s, .string p] W fun e w' => e = .returned (.tuple #[.slice none 0 0, .int .i64 (c : Int)]) ∧ Below W.heap.size W w') ∨
    ∃ g ms, readF p.data.toList = .ok g ∧ alln s.data.toList g 0 none 100000 = some ms ∧ Asc s.data.toList g none 0 ms ∧ Gok g ∧ ms.length ≤ s.size + 1 ∧ ∀ W, Calls Tryd.prog 21 #[.string s, .string p] W fun e w' => (∃ q c vs, e = .returned (.tuple #[.slice q ms.length c, .int .i64 0]) ∧ Mts W.heap.size g.caps ms vs (.slice q ms.length c) w') ∧ Below W.heap.size W w' := by
  cases hr : readF p.data.toList with
  | error c =>
    have hc : 0 < c := by rcases read_err hr with h | h <;> omega
    exact .inl ⟨c, hc, fun W => all_err s p W hp c hc hr⟩
  | ok g =>
    cases ha : alln s.data.toList g 0 none 100000 with
    | none => exact .inl ⟨3, by decide, fun W => all_lim s p W hp hs g hr ha⟩
    | some ms =>
      have hasc := all_asc _ _ _ _ _ (Nat.le_refl _) ha
      have hl := asc_len (gok_read hr) ms hasc
      refine .inr ⟨g, ms, rfl, ha, hasc, gok_read hr, by simpa using hl, fun W => ?_⟩
      have h := all_ok s p W hp hs g hr
      rw [ha] at h
      exact h
end Go.Proofs.YtkbcaklleiapdaaDoor
