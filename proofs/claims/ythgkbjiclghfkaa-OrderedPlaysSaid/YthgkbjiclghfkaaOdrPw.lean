/- Any calls have the answers, and leave the keys and slots, that the chapter says. No condition. -/
import Derived.Test.YthgkbjiclghfkaaOdrMd
import Derived.Test.YthgkbjiclghfkaaOdrSh
namespace Go.Proofs.Ythgkbjiclghfkaa.orderedPlaysLaw
open Go.ChangeShapes Go.WideShapes Go.ChangeAt Go.RowKit Go.Joins Go.Deep M1
set_option linter.unusedVariables false
set_option maxHeartbeats 8000000 in
theorem walk (p : Option Addr) (cap : Nat) (l : List OpA) (w : World) (hlm : l.length ≤ maxLen) (hp : 0 < l.length → ∃ g o, p = some ⟨g, o, none⟩ ∧ g < w.heap.size ∧ ∀ (j m : Nat) (hj : j < l.length), m < 11 → w.cell? ⟨g, o + j * 11 + m, none⟩ = (opC l[j])[m]?) :
    Calls Try.prog 3 #[.slice p l.length cap] w fun e w' => e = .returned (.bool true) ∧ Below w.heap.size w w' := by
  have QN := Lib.hid (new_R w.heap.size w (Nat.le_refl _))
  obtain ⟨i0, hi0, jz0, jz1, jz2⟩ := info_parts info_opM
  have HP := Lib.hid hp
  clear hp
  go_enter Try.func3, Try.ntmps3
  go_wp2_with (first | (go_at_call 10; (with_reducible refine (QN.out).mono ?_); rintro e w1 ⟨b, rfl, ho, hb1, hbel⟩; have HO1 := Lib.hid ho; have HB1 := Lib.hid hbel; have HR1 := Lib.hid (rnew_any w.heap.size w1 hbel.size); clear ho hb1 hbel) | (go_at_call 11; (with_reducible refine (HR1.out).mono ?_); rintro e w2 ⟨b2, rfl, hr2, hb2, hbel2⟩; have HT2 := Lib.hid (tw_new HO1.out hr2 hb2 hbel2); have HB2 := Lib.hid (HB1.out.trans (hbel2.mono HB1.out.size)); clear hr2 hb2 hbel2))
  go_loopw [5] (fun v7 wr => ∃ i : Nat, i ≤ l.length ∧ i ≤ 400 ∧ v7 = .int .i64 (i : Int) ∧ Hid (∃ v m v2, Tw w.heap.size b v m b2 v2 (playR [] (l.take i)) wr) ∧ Hid (Below w.heap.size w wr)) (fun v7 _ => l.length - (intOf v7).toNat)
  case atStart => exact ⟨0, Nat.zero_le _, Nat.zero_le _, rfl, Lib.hid ⟨_, _, _, HT2.out⟩, HB2⟩
  case round =>
    obtain ⟨i, hi, hi4, rfl, HX, HB⟩ := hrel
    rename World => wr
    by_cases hlt : i < l.length
    · have hlt' : (i : Int) < (l.length : Int) := by omega
      by_cases hl4 : i < 400
      · have hl4' : (i : Int) < 400 := by omega
        have hi0' : (0 : Int) ≤ (i : Int) := by omega
        have di : IntKind.i64.wrap ((i : Int) + 1) = (i : Int) + 1 := IntWalk.i64_in _ (by omega)
        obtain ⟨v, m, v2, hT⟩ := HX.out
        have HT := Lib.hid hT
        have HPL : Hid ((playR [] (l.take i)).length ≤ 1000000) := Lib.hid (by have := playR_len (l.take i) []; rw [List.length_take] at this; simp at this; omega)
        have HPL2 : Hid ((playR [] (l.take (i + 1))).length ≤ 1000000) := Lib.hid (by have := playR_len (l.take (i + 1)) []; rw [List.length_take] at this; simp at this; omega)
        have QS := Lib.hid (step_any w.heap.size b v m b2 v2 _ l[i] wr hT HPL.out HB.out.size)
        have HPT : Hid (playR [] (l.take (i + 1)) = stepR (playR [] (l.take i)) l[i]) := Lib.hid (playR_take hlt [])
        obtain ⟨g, o, rfl, hgl, key⟩ := HP.out (by omega)
        have key2 : ∀ j, j < 11 → wr.cell? ⟨g, o + i * 11 + j, none⟩ = (opC l[i])[j]? := fun j hj => (HB.out.cell (p := ⟨g, _, none⟩) hgl).trans (key i j hlt hj)
        have hgr : g < wr.heap.size := Nat.lt_of_lt_of_le hgl HB.out.size
        have s0 : wr.cell? ⟨g, o + i * 11, none⟩ = some (.int .i64 l[i].kind) := key2 0 (by omega)
        have s1 : wr.cell? ⟨g, o + i * 11 + 1, none⟩ = some (.int .i64 l[i].key.k) := key2 1 (by omega)
        have s2 : wr.cell? ⟨g, o + i * 11 + 2, none⟩ = some (.int .i64 l[i].key.p) := key2 2 (by omega)
        have s3 : wr.cell? ⟨g, o + i * 11 + 3, none⟩ = some (.int .i64 l[i].key.q) := key2 3 (by omega)
        have s4 : wr.cell? ⟨g, o + i * 11 + 4, none⟩ = some (.string l[i].key.s) := key2 4 (by omega)
        have s5 : wr.cell? ⟨g, o + i * 11 + 5, none⟩ = some (.int .i64 l[i].key.r) := key2 5 (by omega)
        have s6 : wr.cell? ⟨g, o + i * 11 + 6, none⟩ = some (.int .i64 l[i].val.k) := key2 6 (by omega)
        have s7 : wr.cell? ⟨g, o + i * 11 + 7, none⟩ = some (.int .i64 l[i].val.p) := key2 7 (by omega)
        have s8 : wr.cell? ⟨g, o + i * 11 + 8, none⟩ = some (.int .i64 l[i].val.q) := key2 8 (by omega)
        have s9 : wr.cell? ⟨g, o + i * 11 + 9, none⟩ = some (.string l[i].val.s) := key2 9 (by omega)
        have s10 : wr.cell? ⟨g, o + i * 11 + 10, none⟩ = some (.int .i64 l[i].val.r) := key2 10 (by omega)
        clear key key2 hT
        go_wp2_with (first | (go_at_call 12; (with_reducible refine (QS.out).mono ?_); rintro e w3 ⟨rfl, hs3⟩; have HB3 := Lib.hid (HB.out.trans (hs3.belowB HT.out HB.out.size)); obtain ⟨⟨v', m', v2', ht3, hq3⟩, hc3⟩ := hs3; rw [← HPT.out] at ht3; have HT3 := Lib.hid ht3; have QH := Lib.hid (shown_same w.heap.size b b2 v' m' v2' _ w3 ht3.om ht3.rm HPL2.out); clear ht3 hq3 hc3) | (go_at_call 13; (with_reducible refine (QH.out).mono ?_); rintro e w4 ⟨rfl, hb4⟩))
        have HB4 : Hid (Below w.heap.size w w4) := Lib.hid (HB3.out.trans (hb4.mono HB3.out.size))
        have HT4 := Lib.hid (HT3.out.ch (Ch.of_below (S := []) hb4) (fun g _ => not_nil g))
        clear hb4
        go_wp2
        go_roundw
        case rel => exact ⟨i + 1, by omega, by omega, by go_num, Lib.hid ⟨_, _, _, HT4.out⟩, HB4⟩
        case measure => simp [intOf]; omega
      · have hl4' : ¬ (i : Int) < 400 := by omega
        have QV := Lib.hid (lives_any wr)
        go_wp2_with (go_at_call 14; (with_reducible refine (QV.out).mono ?_); rintro e w8 ⟨rfl, hb8⟩)
        go_ret
        exact ⟨rfl, HB.out.trans (hb8.mono HB.out.size)⟩
    · have hlt' : ¬ (i : Int) < (l.length : Int) := by omega
      have QV := Lib.hid (lives_any wr)
      go_wp2_with (go_at_call 14; (with_reducible refine (QV.out).mono ?_); rintro e w8 ⟨rfl, hb8⟩)
      go_ret
      exact ⟨rfl, HB.out.trans (hb8.mono HB.out.size)⟩
end Go.Proofs.Ythgkbjiclghfkaa.orderedPlaysLaw
