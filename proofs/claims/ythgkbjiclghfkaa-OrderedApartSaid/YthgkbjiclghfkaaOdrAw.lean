/- Two maps do not influence each other, and a list of keys stays as it was. No condition. -/
import Derived.Test.YthgkbjiclghfkaaOdrMd
import Derived.Test.YthgkbjiclghfkaaOdrSh
namespace Go.Proofs.Ythgkbjiclghfkaa.orderedApartLaw
open Go.ChangeShapes Go.WideShapes Go.ChangeAt Go.RowKit Go.Joins Go.Deep M1
set_option linter.unusedVariables false
theorem made_bel (p : Option Addr) (cap : Nat) (l : List OpA) (w : World) (hlm : l.length ≤ maxLen) (hp : 0 < l.length → ∃ g o, p = some ⟨g, o, none⟩ ∧ g < w.heap.size ∧ ∀ (j m : Nat) (hj : j < l.length), m < 11 → w.cell? ⟨g, o + j * 11 + m, none⟩ = (opC l[j])[m]?) :
    Calls Try.prog 15 #[.slice p l.length cap] w fun e w' => (∃ pa pb t, e = .returned (.tuple #[pa, pb, .bool t])) ∧ Below w.heap.size w w' := by
  by_cases hl : 400 < l.length
  · refine (made_no p cap l w hlm hp hl).mono ?_
    rintro e w' ⟨rfl, hb⟩
    exact ⟨⟨_, _, _, rfl⟩, hb⟩
  · refine (made_yes p cap l w hlm hp (by omega)).mono ?_
    rintro e w' ⟨⟨b, v, m, b2, v2, rfl, _⟩, hb⟩
    exact ⟨⟨_, _, _, rfl⟩, hb⟩
theorem hp_below {p : Option Addr} {l : List OpA} {w W : World} (h : 0 < l.length → ∃ g o, p = some ⟨g, o, none⟩ ∧ g < w.heap.size ∧ ∀ (j m : Nat) (hj : j < l.length), m < 11 → w.cell? ⟨g, o + j * 11 + m, none⟩ = (opC l[j])[m]?) (hb : Below w.heap.size w W) : 0 < l.length → ∃ g o, p = some ⟨g, o, none⟩ ∧ g < W.heap.size ∧ ∀ (j m : Nat) (hj : j < l.length), m < 11 → W.cell? ⟨g, o + j * 11 + m, none⟩ = (opC l[j])[m]? := fun h0 => by
  obtain ⟨g, o, h1, h2, h3⟩ := h h0
  exact ⟨g, o, h1, Nat.lt_of_lt_of_le h2 hb.size, fun j m hj hm => (hb.cell (p := ⟨g, _, none⟩) h2).trans (h3 j m hj hm)⟩
theorem ch_mix {S T : List Nat} {w w1 w2 : World} (h : Ch S w w1) (k : Ch T w1 w2) (hT : ∀ g ∈ T, g ∈ S ∨ w.heap.size ≤ g) : Ch S w w2 :=
  ⟨k.os.trans h.os, k.tape.trans h.tape, k.output.trans h.output, Nat.le_trans h.size k.size, fun g h1 h2 => (k.block g (Nat.lt_of_lt_of_le h1 h.size) (fun e => by rcases hT g e with q | q; exact h2 q; omega)).trans (h.block g h1 h2)⟩
set_option maxHeartbeats 8000000 in
theorem walk_a (p : Option Addr) (cap : Nat) (l : List OpA) (p1 : Option Addr) (cap1 : Nat) (l1 : List OpA) (w : World) (hlm : l.length ≤ maxLen) (hp : 0 < l.length → ∃ g o, p = some ⟨g, o, none⟩ ∧ g < w.heap.size ∧ ∀ (j m : Nat) (hj : j < l.length), m < 11 → w.cell? ⟨g, o + j * 11 + m, none⟩ = (opC l[j])[m]?) (hlm1 : l1.length ≤ maxLen) (hp1 : 0 < l1.length → ∃ g o, p1 = some ⟨g, o, none⟩ ∧ g < w.heap.size ∧ ∀ (j m : Nat) (hj : j < l1.length), m < 11 → w.cell? ⟨g, o + j * 11 + m, none⟩ = (opC l1[j])[m]?) (hl : 400 < l.length) :
    Calls Try.prog 9 #[.slice p l.length cap, .slice p1 l1.length cap1] w fun e w' => e = .returned (.bool true) ∧ Below w.heap.size w w' := by
  have QM := Lib.hid (made_no p cap l w hlm hp hl)
  have QM1 : Hid (∀ W, Below w.heap.size w W → Calls Try.prog 15 #[.slice p1 l1.length cap1] W fun e w' => (∃ pa pb t, e = .returned (.tuple #[pa, pb, .bool t])) ∧ Below W.heap.size W w') := Lib.hid fun W hb => made_bel p1 cap1 l1 W hlm1 (hp_below hp1 hb)
  have hd : (400 : Int) < (l.length : Int) := by omega
  clear hp hp1
  go_enter Try.func9, Try.ntmps9
  go_upto_region 2 with (go_at_call 15; (with_reducible refine (QM.out).mono ?_); rintro e w1 ⟨rfl, hb1⟩; have HB1 := Lib.hid hb1; clear hb1)
  have QM2 := Lib.hid (QM1.out w1 HB1.out)
  clear QM
  go_wp2_with (first | (go_at_call 15; (with_reducible refine (QM2.out).mono ?_); rintro e w2 ⟨⟨pa, pb, t, rfl⟩, hb2⟩; have HB2 := Lib.hid (HB1.out.trans (hb2.mono HB1.out.size)); have QV := Lib.hid (lives_any w2); clear hb2) | (go_at_call 14; (with_reducible refine (QV.out).mono ?_); rintro e w8 ⟨rfl, hb8⟩))
  go_ret
  exact ⟨rfl, HB2.out.trans (hb8.mono HB2.out.size)⟩
set_option maxHeartbeats 8000000 in
theorem walk_b (p : Option Addr) (cap : Nat) (l : List OpA) (p1 : Option Addr) (cap1 : Nat) (l1 : List OpA) (w : World) (hlm : l.length ≤ maxLen) (hp : 0 < l.length → ∃ g o, p = some ⟨g, o, none⟩ ∧ g < w.heap.size ∧ ∀ (j m : Nat) (hj : j < l.length), m < 11 → w.cell? ⟨g, o + j * 11 + m, none⟩ = (opC l[j])[m]?) (hlm1 : l1.length ≤ maxLen) (hp1 : 0 < l1.length → ∃ g o, p1 = some ⟨g, o, none⟩ ∧ g < w.heap.size ∧ ∀ (j m : Nat) (hj : j < l1.length), m < 11 → w.cell? ⟨g, o + j * 11 + m, none⟩ = (opC l1[j])[m]?) (hl : l.length ≤ 400) (hl1 : 400 < l1.length) :
    Calls Try.prog 9 #[.slice p l.length cap, .slice p1 l1.length cap1] w fun e w' => e = .returned (.bool true) ∧ Below w.heap.size w w' := by
  have QM := Lib.hid (made_yes p cap l w hlm hp hl)
  have QM1 : Hid (∀ W, Below w.heap.size w W → Calls Try.prog 15 #[.slice p1 l1.length cap1] W fun e w' => e = .returned (.tuple #[.pointer none, .pointer none, .bool false]) ∧ Below W.heap.size W w') := Lib.hid fun W hb => made_no p1 cap1 l1 W hlm1 (hp_below hp1 hb) hl1
  have hd : ¬ (400 : Int) < (l.length : Int) := by omega
  have hd1 : (400 : Int) < (l1.length : Int) := by omega
  clear hp hp1
  go_enter Try.func9, Try.ntmps9
  go_upto_region 2 with (go_at_call 15; (with_reducible refine (QM.out).mono ?_); rintro e w1 ⟨⟨b, v, m, b2, v2, rfl, ht1⟩, hb1⟩; have HT1 := Lib.hid ht1; have HB1 := Lib.hid hb1; clear ht1 hb1)
  have QM2 := Lib.hid (QM1.out w1 HB1.out)
  clear QM
  go_wp2_with (first | (go_at_call 15; (with_reducible refine (QM2.out).mono ?_); rintro e w2 ⟨rfl, hb2⟩; have HB2 := Lib.hid (HB1.out.trans (hb2.mono HB1.out.size)); have QV := Lib.hid (lives_any w2); clear hb2) | (go_at_call 14; (with_reducible refine (QV.out).mono ?_); rintro e w8 ⟨rfl, hb8⟩))
  go_ret
  exact ⟨rfl, HB2.out.trans (hb8.mono HB2.out.size)⟩
set_option maxHeartbeats 16000000 in
theorem walk_c (p : Option Addr) (cap : Nat) (l : List OpA) (p1 : Option Addr) (cap1 : Nat) (l1 : List OpA) (w : World) (hlm : l.length ≤ maxLen) (hp : 0 < l.length → ∃ g o, p = some ⟨g, o, none⟩ ∧ g < w.heap.size ∧ ∀ (j m : Nat) (hj : j < l.length), m < 11 → w.cell? ⟨g, o + j * 11 + m, none⟩ = (opC l[j])[m]?) (hlm1 : l1.length ≤ maxLen) (hp1 : 0 < l1.length → ∃ g o, p1 = some ⟨g, o, none⟩ ∧ g < w.heap.size ∧ ∀ (j m : Nat) (hj : j < l1.length), m < 11 → w.cell? ⟨g, o + j * 11 + m, none⟩ = (opC l1[j])[m]?) (hl : l.length ≤ 400) (hl1 : l1.length ≤ 400) :
    Calls Try.prog 9 #[.slice p l.length cap, .slice p1 l1.length cap1] w fun e w' => e = .returned (.bool true) ∧ Below w.heap.size w w' := by
  have QM := Lib.hid (made_yes p cap l w hlm hp hl)
  have QM1 : Hid (∀ W : World, Below w.heap.size w W → _) := Lib.hid fun W hb => made_yes p1 cap1 l1 W hlm1 (hp_below hp1 hb) hl1
  have HP := Lib.hid hp
  obtain ⟨i0, hi0, jz0, jz1, jz2⟩ := info_parts info_opM
  have HLA : Hid ((playR [] l).length ≤ 1000000) := Lib.hid (by have := playR_len l []; simp at this; omega)
  have HLB : Hid ((playR [] l1).length ≤ 400) := Lib.hid (by have := playR_len l1 []; simp at this; omega)
  clear hp hp1
  generalize playR [] l = RA at *
  generalize playR [] l1 = RB at *
  go_enter Try.func9, Try.ntmps9
  go_upto_region 2 with (go_at_call 15; (with_reducible refine (QM.out).mono ?_); rintro e w1 ⟨⟨b, v, m, b2, v2, rfl, ht1⟩, hb1⟩; have HT1 := Lib.hid ht1; have HB1 := Lib.hid hb1; clear ht1 hb1)
  have QM2 := Lib.hid (QM1.out w1 HB1.out)
  clear QM QM1
  go_upto_region 5 with (go_at_call 15; (with_reducible refine (QM2.out).mono ?_); rintro e w2 ⟨⟨c, vc, mc, c2, vc2, rfl, ht2⟩, hb2⟩; have HT2 := Lib.hid ht2; have HBB := Lib.hid hb2; clear ht2 hb2)
  have HB2 := Lib.hid (HB1.out.trans (HBB.out.mono HB1.out.size))
  have HA2 : Hid (Tw w.heap.size b v m b2 v2 RA w2) := Lib.hid (HT1.out.ch (Ch.of_below (S := []) HBB.out) (fun g _ => not_nil g))
  have HAL : Hid (∀ g ∈ twS b v m b2 v2, g < w1.heap.size) := Lib.hid fun g hg => (HT1.out.lt g hg).2
  have QK := Lib.hid (keys_R w.heap.size b v m RA w2 HA2.out.om HLA.out)
  go_upto_region 6 with (go_at_call 16; (with_reducible refine (QK.out).mono ?_); rintro e w3 ⟨⟨vK, rfl, hr3⟩, hb3⟩)
  have HR3 := Lib.hid hr3
  have HC3 : Hid (Ch [] w2 w3) := Lib.hid (Ch.of_below hb3)
  have HB3 := Lib.hid (HB2.out.trans (hb3.mono HB2.out.size))
  have HT3 : Hid (Tw w1.heap.size c vc mc c2 vc2 RB w3) := Lib.hid (HT2.out.ch HC3.out (fun g _ => not_nil g))
  have HS0 : Hid (∀ g ∈ twS c vc mc c2 vc2, w1.heap.size ≤ g ∧ g < w2.heap.size) := Lib.hid fun g hg => HT2.out.lt g hg
  have HA3 : Hid (Tw w.heap.size b v m b2 v2 RA w3) := Lib.hid (HA2.out.ch HC3.out (fun g _ => not_nil g))
  clear hr3 hb3 QK QM2
  go_wp2
  go_loopw [12] (fun v12 wr => ∃ i : Nat, i ≤ l.length ∧ i ≤ 20 ∧ v12 = .int .i64 (i : Int) ∧ Hid (∃ v' m' v2' R', Tw w1.heap.size c v' m' c2 v2' R' wr ∧ R'.length ≤ 400 + i ∧ (∀ g ∈ twS c v' m' c2 v2', g ∈ twS c vc mc c2 vc2 ∨ w3.heap.size ≤ g)) ∧ Hid (Ch (twS c vc mc c2 vc2) w3 wr)) (fun v12 _ => l.length - (intOf v12).toNat)
  case atStart => exact ⟨0, Nat.zero_le _, Nat.zero_le _, rfl, Lib.hid ⟨vc, mc, vc2, RB, HT3.out, HLB.out, fun g hg => .inl hg⟩, Lib.hid (Ch.refl _ _)⟩
  case round =>
    obtain ⟨i, hi, hi2, rfl, HX, HC⟩ := hrel
    rename World => wr
    have HSS : Hid (∀ g ∈ twS c vc mc c2 vc2, w.heap.size ≤ g) := Lib.hid fun g hg => Nat.le_trans HB1.out.size (HS0.out g hg).1
    have HBr : Hid (Below w.heap.size w wr) := Lib.hid (HB3.out.trans (HC.out.belowB HSS.out HB3.out.size))
    by_cases hgo : i < l.length ∧ i < 20
    · obtain ⟨hlt, hl2⟩ := hgo
      have hlt' : (i : Int) < (l.length : Int) := by omega
      have hl2' : (i : Int) < 20 := by omega
      have hi0' : (0 : Int) ≤ (i : Int) := by omega
      have di : IntKind.i64.wrap ((i : Int) + 1) = (i : Int) + 1 := IntWalk.i64_in _ (by omega)
      obtain ⟨v', m', v2', R', hT, hRl, hfr⟩ := HX.out
      have HT := Lib.hid hT
      have HFR := Lib.hid hfr
      have HRL := Lib.hid hRl
      have QS := Lib.hid (step_any w1.heap.size c v' m' c2 v2' R' l[i] wr hT (by omega) (Nat.le_trans (Nat.le_trans HBB.out.size HC3.out.size) HC.out.size))
      obtain ⟨g, o, rfl, hgl, key⟩ := HP.out (by omega)
      have key2 : ∀ j, j < 11 → wr.cell? ⟨g, o + i * 11 + j, none⟩ = (opC l[i])[j]? := fun j hj => (HBr.out.cell (p := ⟨g, _, none⟩) hgl).trans (key i j hlt hj)
      have hgr : g < wr.heap.size := Nat.lt_of_lt_of_le hgl HBr.out.size
      have s0 : wr.cell? ⟨g, o + i * 11, none⟩ = some (.int .i64 l[i].kind) := key2 0 (by omega)
      have s1 : wr.cell? ⟨g, o + i * 11 + 1, none⟩ = some (.int .i64 l[i].key.k) := key2 1 (by omega)
      have s2 : wr.cell? ⟨g, o + i * 11 + 2, none⟩ = some (.int .i64 l[i].key.p) := key2 2 (by omega)
      have s3 : wr.cell? ⟨g, o + i * 11 + 3, none⟩ = some (.int .i64 l[i].key.q) := key2 3 (by omega)
      have s4 : wr.cell? ⟨g, o + i * 11 + 4, none⟩ = some (.string l[i].key.s) := key2 4 (by omega)
      have s5 : wr.cell? ⟨g, o + i * 11 + 5, none⟩ = some (.int .i64 l[i].key.r) := key2 5 (by omega)
      have s6 : wr.cell? ⟨g, o + i * 11 + 6, none⟩ = some (.int .i64 l[i].val.k) := key2 6 (by omega)
      have s7 : wr.cell? ⟨g, o + i * 11 + 7, none⟩ = some (.int .i64 l[i].val.p) := key2 7 (by omega)
      have s8 : wr.cell? ⟨g, o + i * 11 + 8, none⟩ = some (.int .i64 l[i].val.q) := key2 8 (by omega)
      have s9 : wr.cell? ⟨g, o + i * 11 + 9, none⟩ = some (.string l[i].val.s) := key2 9 (by omega)
      have s10 : wr.cell? ⟨g, o + i * 11 + 10, none⟩ = some (.int .i64 l[i].val.r) := key2 10 (by omega)
      clear key key2 hT hRl hfr
      go_wp2_with (go_at_call 12; (with_reducible refine (QS.out).mono ?_); rintro e w4 ⟨rfl, ⟨va, ma, v2a, hta, hfa⟩, hca⟩)
      have HCC : Hid (Ch (twS c vc mc c2 vc2) w3 w4) := Lib.hid (ch_mix HC.out hca HFR.out)
      have HX4 : Hid (∃ v' m' v2' R', Tw w1.heap.size c v' m' c2 v2' R' w4 ∧ R'.length ≤ 400 + (i + 1) ∧ (∀ g ∈ twS c v' m' c2 v2', g ∈ twS c vc mc c2 vc2 ∨ w3.heap.size ≤ g)) := Lib.hid ⟨va, ma, v2a, _, hta, by have := stepR_len R' l[i]; have := HRL.out; omega, fun g hg => by
        rcases hfa g hg with q | q
        · exact HFR.out g q
        · right; have := HC.out.size; omega⟩
      clear hta hfa hca
      go_wp2
      go_roundw
      case rel => exact ⟨i + 1, by omega, by omega, by go_num, HX4, HCC⟩
      case measure => simp [intOf]; omega
    · obtain ⟨v', m', v2', R', hT, hRl, hfr⟩ := HX.out
      have HTB := Lib.hid hT
      have HTA : Hid (Tw w.heap.size b v m b2 v2 RA wr) := Lib.hid (HA3.out.ch HC.out (fun g hg hg2 => by have h1 := HAL.out g hg; have h2 := (HS0.out g hg2).1; omega))
      have HRr : Hid (wr.ownsRow w2.heap.size 31 5 vK (keysR RA).length ((keysR RA).flatMap vC)) := Lib.hid (HC.out.ownB HR3.out (fun g hg hg2 => by have h1 := (own_lo HR3.out hg).1; have h2 := (HS0.out g hg2).2; omega))
      have HKL : Hid ((keysR RA).length ≤ 1000000) := Lib.hid (by have := ksR_len RA RA.length; rw [List.take_length] at this; have := HLA.out; omega)
      have QH := Lib.hid (shown_same w.heap.size b b2 v m v2 RA wr HTA.out.om HTA.out.rm HLA.out)
      have QH2 : Hid (∀ W : World, Below wr.heap.size wr W → _) := Lib.hid fun W hb => shown_same w1.heap.size c c2 v' m' v2' R' W (hT.ch (Ch.of_below (S := []) hb) (fun g _ => not_nil g)).om (hT.ch (Ch.of_below (S := []) hb) (fun g _ => not_nil g)).rm (by omega)
      clear hT hRl hfr
      have QS2 : Hid (∀ W : World, Below wr.heap.size wr W → Calls Try.prog 20 #[.pointer (some ⟨b, 0, none⟩), .agg #[.int .i64 3, .int .i64 0, .int .i64 0, .string ⟨#[110, 101, 119]⟩, .int .i64 0], .agg #[.int .i64 1, .int .i64 0, .int .i64 0, .string ⟨#[]⟩, .int .i64 0]] W fun e w' => (∃ n, e = .returned (.int .i64 n)) ∧ Ch (omS b v m) W w') := Lib.hid fun W hb => by
        refine (set_R w.heap.size b v m RA ⟨3, 0, 0, ⟨#[110, 101, 119]⟩, 0⟩ ⟨1, 0, 0, ⟨#[]⟩, 0⟩ W (HTA.out.om.ch (Ch.of_below (S := []) hb) (fun g _ => not_nil g)) HLA.out (Nat.le_trans HBr.out.size hb.size)).mono ?_
        rintro e w' ⟨rfl, _, hc⟩
        exact ⟨⟨_, rfl⟩, hc⟩
      by_cases hlt : i < l.length
      · have hlt' : (i : Int) < (l.length : Int) := by omega
        have hl2' : ¬ (i : Int) < 20 := by omega
        go_upto_region 13 with (first | (go_at_call 13; (with_reducible refine (QH.out).mono ?_); rintro e w4 ⟨rfl, hb4⟩; have HB4 := Lib.hid hb4; have QH3 := Lib.hid (QH2.out w4 hb4); clear hb4) | (go_at_call 13; (with_reducible refine (QH3.out).mono ?_); rintro e w5 ⟨rfl, hb5⟩; have HB5 := Lib.hid (HB4.out.trans (hb5.mono HB4.out.size)); clear hb5))
        have QS3 := Lib.hid (QS2.out w5 HB5.out)
        go_upto_region 14 with (go_at_call 20; (with_reducible refine (QS3.out).mono ?_); rintro e w6 ⟨⟨n, rfl⟩, hc6⟩)
        have HB6 : Hid (Below w.heap.size w w6) := Lib.hid ((HBr.out.trans (HB5.out.mono HBr.out.size)).trans (hc6.belowB (fun g hg => (HTA.out.om.lt g hg).1) (Nat.le_trans HBr.out.size HB5.out.size)))
        have HM6 : Hid (RM w.heap.size b2 v2 RA w6) := Lib.hid ((HTA.out.rm.below HB5.out).ch hc6 (fun g q q' => HTA.out.ap g q' q))
        have HR6 : Hid (w6.ownsRow w2.heap.size 31 5 vK (keysR RA).length ((keysR RA).flatMap vC)) := Lib.hid (hc6.ownB ((Ch.of_below (S := []) HB5.out).ownB HRr.out (fun g _ => not_nil g)) (fun g hg hg2 => by have h1 := (own_lo HR3.out hg).1; have h2 := HAL.out g (List.mem_append.2 (.inl hg2)); have h3 := HBB.out.size; omega))
        have QK := Lib.hid (rkeys_any w.heap.size b2 v2 RA w6 HM6.out HLA.out)
        clear hc6
        go_wp2_with (first | (go_at_call 24; (with_reducible refine (QK.out).mono ?_); rintro e w7 ⟨⟨k2, rfl, ho2⟩, hb7⟩; have HB7 := Lib.hid (HB6.out.trans (hb7.mono HB6.out.size)); have HQ := Lib.hid (keys_same w2.heap.size w6.heap.size vK k2 (keysR RA) w7 ((Ch.of_below (S := []) hb7).ownB HR6.out (fun g _ => not_nil g)) ho2 HKL.out); clear ho2 hb7) | (go_at_call 23; (with_reducible refine (HQ.out).mono ?_); rintro e w9 ⟨rfl, hb9⟩; have HB9 := Lib.hid (HB7.out.trans (hb9.mono HB7.out.size)); have QV := Lib.hid (lives_any w9); clear hb9) | (go_at_call 14; (with_reducible refine (QV.out).mono ?_); rintro e w8 ⟨rfl, hb8⟩))
        go_ret
        exact ⟨rfl, HB9.out.trans (hb8.mono HB9.out.size)⟩
      · have hlt' : ¬ (i : Int) < (l.length : Int) := by omega
        go_upto_region 13 with (first | (go_at_call 13; (with_reducible refine (QH.out).mono ?_); rintro e w4 ⟨rfl, hb4⟩; have HB4 := Lib.hid hb4; have QH3 := Lib.hid (QH2.out w4 hb4); clear hb4) | (go_at_call 13; (with_reducible refine (QH3.out).mono ?_); rintro e w5 ⟨rfl, hb5⟩; have HB5 := Lib.hid (HB4.out.trans (hb5.mono HB4.out.size)); clear hb5))
        have QS3 := Lib.hid (QS2.out w5 HB5.out)
        go_upto_region 14 with (go_at_call 20; (with_reducible refine (QS3.out).mono ?_); rintro e w6 ⟨⟨n, rfl⟩, hc6⟩)
        have HB6 : Hid (Below w.heap.size w w6) := Lib.hid ((HBr.out.trans (HB5.out.mono HBr.out.size)).trans (hc6.belowB (fun g hg => (HTA.out.om.lt g hg).1) (Nat.le_trans HBr.out.size HB5.out.size)))
        have HM6 : Hid (RM w.heap.size b2 v2 RA w6) := Lib.hid ((HTA.out.rm.below HB5.out).ch hc6 (fun g q q' => HTA.out.ap g q' q))
        have HR6 : Hid (w6.ownsRow w2.heap.size 31 5 vK (keysR RA).length ((keysR RA).flatMap vC)) := Lib.hid (hc6.ownB ((Ch.of_below (S := []) HB5.out).ownB HRr.out (fun g _ => not_nil g)) (fun g hg hg2 => by have h1 := (own_lo HR3.out hg).1; have h2 := HAL.out g (List.mem_append.2 (.inl hg2)); have h3 := HBB.out.size; omega))
        have QK := Lib.hid (rkeys_any w.heap.size b2 v2 RA w6 HM6.out HLA.out)
        clear hc6
        go_wp2_with (first | (go_at_call 24; (with_reducible refine (QK.out).mono ?_); rintro e w7 ⟨⟨k2, rfl, ho2⟩, hb7⟩; have HB7 := Lib.hid (HB6.out.trans (hb7.mono HB6.out.size)); have HQ := Lib.hid (keys_same w2.heap.size w6.heap.size vK k2 (keysR RA) w7 ((Ch.of_below (S := []) hb7).ownB HR6.out (fun g _ => not_nil g)) ho2 HKL.out); clear ho2 hb7) | (go_at_call 23; (with_reducible refine (HQ.out).mono ?_); rintro e w9 ⟨rfl, hb9⟩; have HB9 := Lib.hid (HB7.out.trans (hb9.mono HB7.out.size)); have QV := Lib.hid (lives_any w9); clear hb9) | (go_at_call 14; (with_reducible refine (QV.out).mono ?_); rintro e w8 ⟨rfl, hb8⟩))
        go_ret
        exact ⟨rfl, HB9.out.trans (hb8.mono HB9.out.size)⟩
theorem walk (p : Option Addr) (cap : Nat) (l : List OpA) (p1 : Option Addr) (cap1 : Nat) (l1 : List OpA) (w : World) (hlm : l.length ≤ maxLen) (hp : 0 < l.length → ∃ g o, p = some ⟨g, o, none⟩ ∧ g < w.heap.size ∧ ∀ (j m : Nat) (hj : j < l.length), m < 11 → w.cell? ⟨g, o + j * 11 + m, none⟩ = (opC l[j])[m]?) (hlm1 : l1.length ≤ maxLen) (hp1 : 0 < l1.length → ∃ g o, p1 = some ⟨g, o, none⟩ ∧ g < w.heap.size ∧ ∀ (j m : Nat) (hj : j < l1.length), m < 11 → w.cell? ⟨g, o + j * 11 + m, none⟩ = (opC l1[j])[m]?) :
    Calls Try.prog 9 #[.slice p l.length cap, .slice p1 l1.length cap1] w fun e w' => e = .returned (.bool true) ∧ Below w.heap.size w w' := by
  by_cases hl : 400 < l.length
  · exact walk_a p cap l p1 cap1 l1 w hlm hp hlm1 hp1 hl
  · by_cases hl1 : 400 < l1.length
    · exact walk_b p cap l p1 cap1 l1 w hlm hp hlm1 hp1 (by omega) hl1
    · exact walk_c p cap l p1 cap1 l1 w hlm hp hlm1 hp1 (by omega) (by omega)
end Go.Proofs.Ythgkbjiclghfkaa.orderedApartLaw
