/- The laws of layer 9: the parts are what the reference says. -/
import Derived.Test.YtbdcmnhfmkefdaaGreatDoorFmtP
import Derived.Test.YtbdcmnhfmkefdaaGreatDoorFmtY
import Derived.BigRegion
namespace Go.Proofs.YtbdcmnhfmkefdaaGreatDoor
open Go.RowKit Go.Joins M1 M2 M9
set_option linter.unusedVariables false
theorem rowc7 {T : TypeId} {w : World} {B g cap : Nat} {ps : List Pc} (h : w.ownsRow B T 7 (.slice (some ⟨g, 0, none⟩) ps.length cap) ps.length (ps.flatMap pcC)) {k : Nat} (hk : k < ps.length) : ∀ i, i < 7 → w.cell? ⟨g, k * 7 + i, none⟩ = (pcC ps[k])[i]? := by
  intro i hi
  rw [h.cellAt (k * 7 + i) (by omega)]
  exact flat_at ps k i hk hi
theorem both_pieces (s : ByteArray) (w : World) (he : E9 w) (hs : s.size ≤ 100000) : ∃ (ps : List Pc) (c : Int),
    (Calls Tryz.prog 12 #[.string s] w fun e w' => (∃ v, e = .returned (.tuple #[v, .int .i64 c]) ∧ w'.ownsRow w.heap.size 31 7 v ps.length (ps.flatMap pcC)) ∧ Below w.heap.size w w') ∧
    (∀ W, Calls Tryz.prog 13 #[.string s] W fun e w' => (∃ v, e = .returned (.tuple #[v, .int .i64 c]) ∧ w'.ownsRow W.heap.size 32 7 v ps.length (ps.flatMap pcC)) ∧ Below W.heap.size W w') ∧ ps.length ≤ 2 * s.size + 1 := by
  have h := pieces_any s w he hs
  have hr := fun W => rpieces9 s W hs
  cases hp : pieces s.data.toList [] with
  | none =>
    rw [hp] at h hr
    refine ⟨[], 4, h.mono ?_, fun W => (hr W).mono ?_, Nat.zero_le _⟩
    · rintro e w' ⟨rfl, hb⟩
      exact ⟨⟨_, rfl, rfl, .inl ⟨rfl, rfl⟩⟩, hb⟩
    · rintro e w' ⟨rfl, hb⟩
      exact ⟨⟨_, rfl, rfl, .inl ⟨rfl, rfl⟩⟩, hb⟩
  | some ps =>
    rw [hp] at h hr
    have h1 := (pieces_bd hp).1
    have h2 : s.data.toList.length = s.size := by simp
    refine ⟨ps, 0, h.mono ?_, fun W => (hr W).mono ?_, by omega⟩
    · rintro e w' ⟨⟨v, rfl, ho⟩, hb⟩
      exact ⟨⟨v, rfl, ho⟩, hb⟩
    · rintro e w' ⟨⟨v, rfl, ho⟩, hb⟩
      exact ⟨⟨v, rfl, ho⟩, hb⟩
/-- Two lists of the same parts. -/
structure Two (w : World) (ps : List Pc) (v1 v2 : Value) (W : World) : Prop where
  r1 : W.ownsRow w.heap.size 31 7 v1 ps.length (ps.flatMap pcC)
  r2 : W.ownsRow w.heap.size 32 7 v2 ps.length (ps.flatMap pcC)
  bel : Below w.heap.size w W
theorem Two.keep {w : World} {ps : List Pc} {v1 v2 : Value} {W W2 : World} (h : Two w ps v1 v2 W) (hb : Below W.heap.size W W2) : Two w ps v1 v2 W2 :=
  ⟨(Ch.of_below (S := []) hb).ownB h.r1 (by simp), (Ch.of_below (S := []) hb).ownB h.r2 (by simp), h.bel.trans (hb.mono h.bel.size)⟩
set_option maxHeartbeats 16000000 in
set_option maxRecDepth 100000 in
theorem pieces_walk (f : ByteArray) (hm : f.size ≤ maxLen) (w : World) (he : E9 w) :
    Calls Tryz.prog 3 #[.string f] w fun e w' => e = .returned (.bool true) ∧ Below w.heap.size w w' := by
  have hL := Lib.hid fun W (hb : Below w.heap.size w W) => lives9 W (he.on hb)
  by_cases hs : 2000 < f.size
  · have d0 : (2000 : Int) < (f.size : Int) := by omega
    clear he
    go_enter Tryz.func3, Tryz.ntmps3
    go_wp2_with (go_at_call 11; (with_reducible refine (hL.out _ (Below.refl _ _)).mono ?_); rintro e w1 ⟨rfl, hb1⟩)
    go_ret
    exact ⟨rfl, hb1⟩
  · have d0 : ¬ (2000 : Int) < (f.size : Int) := by omega
    obtain ⟨ps, c, h1, h2, hpl⟩ := both_pieces f w he (by omega)
    have QP := Lib.hid h1
    have QR := Lib.hid h2
    have hpl2 : ps.length ≤ 10000 := by omega
    clear he h1 h2
    go_enter Tryz.func3, Tryz.ntmps3
    go_upto_region 5 with (first | (go_at_call 12; (with_reducible refine (QP.out).mono ?_); rintro e w1 ⟨⟨v1, rfl, ho1⟩, hb1⟩) | (go_at_call 13; (with_reducible refine (QR.out _).mono ?_); rintro e w2 ⟨⟨v2, rfl, ho2⟩, hb2⟩))
    have HT0 : Hid (Two w ps v1 v2 w2) := Lib.hid ⟨(Ch.of_below (S := []) hb2).ownB ho1 (by simp), ownsRow_le ho2 hb1.size, hb1.trans (hb2.mono hb1.size)⟩
    clear ho1 ho2 hb1 hb2 QP QR
    obtain ⟨q1, c1, rfl⟩ := ownB_form HT0.out.r1
    obtain ⟨q2, c2, rfl⟩ := ownB_form HT0.out.r2
    go_wp2
    go_loopw [7] (fun v7 wr => ∃ k : Nat, k ≤ ps.length ∧ v7 = .int .i64 (k : Int) ∧ Hid (Two w ps (.slice q1 ps.length c1) (.slice q2 ps.length c2) wr)) (fun v7 _ => ps.length - (intOf v7).toNat)
    case atStart => exact ⟨0, Nat.zero_le _, rfl, HT0⟩
    case round =>
      clear HT0
      obtain ⟨k, hk, rfl, HT⟩ := hrel
      rename World => W0
      have hsz := HT.out.bel.size
      by_cases hlt : k < ps.length
      · have hlt' : (k : Int) < (ps.length : Int) := by omega
        obtain ⟨g1, cap1, hge1⟩ := ownsRow_form HT.out.r1 (by omega)
        obtain ⟨rfl, rfl⟩ : q1 = some ⟨g1, 0, none⟩ ∧ c1 = cap1 := by injection hge1 with h1 _ h3; exact ⟨h1, h3⟩
        obtain ⟨g2, cap2, hge2⟩ := ownsRow_form HT.out.r2 (by omega)
        obtain ⟨rfl, rfl⟩ : q2 = some ⟨g2, 0, none⟩ ∧ c2 = cap2 := by injection hge2 with h1 _ h3; exact ⟨h1, h3⟩
        clear hge1 hge2
        have hc1 := rowc7 HT.out.r1 hlt
        have hc2 := rowc7 HT.out.r2 hlt
        have hl1 : g1 < W0.heap.size := (own_lo HT.out.r1 (mem_ob.2 rfl)).2
        have hl2 : g2 < W0.heap.size := (own_lo HT.out.r2 (mem_ob.2 rfl)).2
        obtain ⟨p, hp⟩ : ∃ p, ps[k] = p := ⟨_, rfl⟩
        rw [hp] at hc1 hc2
        obtain ⟨tx, ve, mi, ze, pl, wd, pc⟩ := p
        obtain ⟨z, hz⟩ : ∃ z, bq tx = z := ⟨_, rfl⟩
        simp only [pcC, hz] at hc1 hc2
        have a0 : W0.cell? ⟨g1, k * 7, none⟩ = some (.string z) := hc1 0 (by decide)
        have a1 : W0.cell? ⟨g1, k * 7 + 1, none⟩ = some (.int .u8 (ve : Int)) := hc1 1 (by decide)
        have a2 : W0.cell? ⟨g1, k * 7 + 2, none⟩ = some (.bool mi) := hc1 2 (by decide)
        have a3 : W0.cell? ⟨g1, k * 7 + 3, none⟩ = some (.bool ze) := hc1 3 (by decide)
        have a4 : W0.cell? ⟨g1, k * 7 + 4, none⟩ = some (.bool pl) := hc1 4 (by decide)
        have a5 : W0.cell? ⟨g1, k * 7 + 5, none⟩ = some (.int .i64 (wd : Int)) := hc1 5 (by decide)
        have a6 : W0.cell? ⟨g1, k * 7 + 6, none⟩ = some (.int .i64 pc) := hc1 6 (by decide)
        have b0 : W0.cell? ⟨g2, k * 7, none⟩ = some (.string z) := hc2 0 (by decide)
        have b1 : W0.cell? ⟨g2, k * 7 + 1, none⟩ = some (.int .u8 (ve : Int)) := hc2 1 (by decide)
        have b2 : W0.cell? ⟨g2, k * 7 + 2, none⟩ = some (.bool mi) := hc2 2 (by decide)
        have b3 : W0.cell? ⟨g2, k * 7 + 3, none⟩ = some (.bool ze) := hc2 3 (by decide)
        have b4 : W0.cell? ⟨g2, k * 7 + 4, none⟩ = some (.bool pl) := hc2 4 (by decide)
        have b5 : W0.cell? ⟨g2, k * 7 + 5, none⟩ = some (.int .i64 (wd : Int)) := hc2 5 (by decide)
        have b6 : W0.cell? ⟨g2, k * 7 + 6, none⟩ = some (.int .i64 pc) := hc2 6 (by decide)
        clear hc1 hc2 hz hp
        go_upto_region 10 with fail
        go_region
        all_goals (
          go_wp2
          go_roundw
          case rel => exact ⟨k + 1, by omega, by go_num, Lib.hid (HT.out.keep (((Below.refl _ _).alloc (Nat.le_refl _) _).alloc (by simp) _).drew)⟩
          case measure => simp [intOf]; omega)
      · have hlt' : ¬ (k : Int) < (ps.length : Int) := by omega
        have hL2 := Lib.hid (hL.out _ HT.out.bel)
        go_wp2_with (go_at_call 11; (with_reducible refine (hL2.out).mono ?_); rintro e w9 ⟨rfl, hb9⟩)
        go_ret
        exact ⟨rfl, HT.out.bel.trans (hb9.mono hsz)⟩
end Go.Proofs.YtbdcmnhfmkefdaaGreatDoor
