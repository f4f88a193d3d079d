/- Contracts of layer 3: blanks and remarks. -/
import Derived.Test.YtbcbddglgfakpaaDoorLexB
import Derived.Test.YtbcbddglgfakpaaDoorShelf
import Derived.Deep.RegionHeld3
import Derived.Deep.RegionWith
import Derived.Deep.DeepCutAuto
import Derived.Lib.ItoaWalk
namespace Go.Proofs.YtbcbddglgfakpaaDoor
open Go.RowKit M3
set_option linter.unusedVariables false
theorem count_nl (s : ByteArray) (w : World) :
    Calls Tryd.prog 21 #[.string s, .string ⟨#[10]⟩] w fun e w' => e = .returned (.int .i64 ((Lib.countByte s.data.toList 10 : Nat) : Int)) ∧ w' = w := Tryd.strings_Count_one s 10 w
theorem count_le (l : List UInt8) : Lib.countByte l 10 ≤ l.length := List.count_le_length
theorem rem_pre (s : ByteArray) (w : World) :
    Calls Tryd.prog 22 #[.string s, .string ⟨#[45, 45]⟩] w fun e w' => e = .returned (.bool (Lib.hasPrefix s.data.toList [45, 45])) ∧ w' = w := Tryd.strings_HasPrefix s ⟨#[45, 45]⟩ w
theorem Lst.heap {w w' : World} {B : Nat} {l : List UInt8} (h : Lst w B l) (e : w'.heap = w.heap) : Lst w' B l := by
  obtain ⟨g, h1, h2, h3, h4⟩ := h.ex
  have hc : ∀ (a : Addr), w'.cell? a = w.cell? a := fun a => World.cell?_of_block (by rw [e])
  exact ⟨g, by rw [e]; exact h1, by rw [e]; exact h2, by rw [hc]; exact h3, fun j hj => by rw [hc]; exact h4 j hj⟩
theorem Non.heap {w w' : World} {B : Nat} {l : List UInt8} (h : Non w B l) (e : w'.heap = w.heap) : Non w' B l := by
  obtain ⟨g, h1, h2, h3⟩ := h.ex
  exact ⟨g, by rw [e]; exact h1, by rw [World.cell?_of_block (w := w) (by rw [e])]; exact h2, h3.heap e⟩
theorem Sc.heap {b : Nat} {s : ByteArray} {k ln : Nat} {w w' : World} (h : Sc b s k ln w) (e : w'.heap = w.heap) : Sc b s k ln w' := by unfold Sc at *; rw [e]; exact h
theorem lst4 (w : World) : Lst ((w.alloc (.cells #[.int .u8 32, .int .u8 9, .int .u8 10, .int .u8 13] 5)).alloc (.cells #[.slice (some ⟨w.heap.size, 0, none⟩) 4 4] 42)) (w.alloc (.cells #[.int .u8 32, .int .u8 9, .int .u8 10, .int .u8 13] 5)).heap.size blL := by
  refine ⟨w.heap.size, by simp; omega, by simp, by simp [blL], fun j hj => ?_⟩
  have hj4 : j < 4 := hj
  match j, hj4 with
  | 0, _ => simp [blL]
  | 1, _ => simp [blL]
  | 2, _ => simp [blL]
  | 3, _ => simp [blL]

set_option maxHeartbeats 4000000 in
theorem skip_any (b : Nat) (s : ByteArray) (at' ln : Nat) (w : World) (hs : s.size ≤ 4000000000) (ha : at' ≤ s.size) (hln : ln ≤ 4000000000) (hSc : Sc b s at' ln w) :
    Calls Tryd.prog 29 #[.pointer (some ⟨b, 0, none⟩)] w fun e w' => e = .returned (.tuple #[]) ∧ Sc b s (at' + (sk (s.data.toList.drop at')).1) (ln + (sk (s.data.toList.drop at')).2) w' ∧ w.grownBy w' (some b) := by
  have hb := hSc.lt
  have hL2 := lst4 w
  have hB2 : RowKit.Below w.heap.size w ((w.alloc (.cells #[.int .u8 32, .int .u8 9, .int .u8 10, .int .u8 13] 5)).alloc (.cells #[.slice (some ⟨w.heap.size, 0, none⟩) 4 4] 42)) := ((RowKit.Below.refl _ _).alloc (Nat.le_refl _) _).alloc (by simp) _
  have O1 := oneOf_any w.heap.size 4 (w.alloc (.cells #[.int .u8 32, .int .u8 9, .int .u8 10, .int .u8 13] 5))
  generalize (w.alloc (.cells #[.int .u8 32, .int .u8 9, .int .u8 10, .int .u8 13] 5)).heap.size = B at *
  generalize (w.alloc (.cells #[.int .u8 32, .int .u8 9, .int .u8 10, .int .u8 13] 5)).alloc (.cells #[.slice (some ⟨w.heap.size, 0, none⟩) 4 4] 42) = W2 at *
  have N1 : Calls Tryd.prog 47 #[.slice (some ⟨W2.heap.size, 0, none⟩) 1 1] (W2.alloc (.cells #[.int .u8 10] 5)) _ := noneOf_any W2.heap.size [10] (W2.alloc (.cells #[.int .u8 10] 5)) (by simp) (fun j hj => by
    have hj1 : j = 0 := by simpa using hj
    subst hj1; simp)
  have hB3 : RowKit.Below W2.heap.size W2 (W2.alloc (.cells #[.int .u8 10] 5)) := (RowKit.Below.refl _ _).alloc (Nat.le_refl _) _
  generalize (W2.alloc (.cells #[.int .u8 10] 5)).heap.size + 1 = L at *
  have HO := Lib.hid O1
  have HN := Lib.hid N1
  have HL2 := Lib.hid hL2
  have HB2 := Lib.hid hB2
  have HB3 := Lib.hid hB3
  clear O1 N1 hL2 hB2 hB3
  go_enter Tryd.func29, Tryd.ntmps29
  go_upto_region 1 with (first | (go_at_call 46; (with_reducible refine (HO.out).mono ?_); rintro e w1 ⟨rfl, rfl⟩) | (go_at_call 47; (with_reducible refine (HN.out).mono ?_); rintro e w2 ⟨rfl, hN, hb4⟩))
  have HLw := Lib.hid (HL2.out.kept (grow_below (HB3.out.trans (hb4.mono (by have := HB3.out.size; omega))) none) (fun _ h => by cases h))
  have HNw := Lib.hid hN
  have hbw : RowKit.Below w.heap.size w w2 := HB2.out.trans (((HB3.out.trans (hb4.mono (by have := HB3.out.size; omega)))).mono HB2.out.size)
  have HSw : Hid (Sc b s at' ln w2) := Lib.hid (hSc.kept (grow_below hbw none) (by simp))
  have HGw : Hid (w.grownBy w2 (some b)) := Lib.hid (grow_below hbw _)
  clear hN hb4 hbw HL2 HB2 HB3 HO HN
  go_wp2
  go_loopw [8] (fun _ wr => ∃ k m : Nat, at' ≤ k ∧ k ≤ s.size ∧ ln ≤ m ∧ m ≤ ln + k ∧ Hid (Sc b s k m wr) ∧ Hid (w.grownBy wr (some b)) ∧ Hid (Lst wr B blL) ∧ Hid (Non wr L [10]) ∧ Hid (sk (s.data.toList.drop at') = ((k - at') + (sk (s.data.toList.drop k)).1, (m - ln) + (sk (s.data.toList.drop k)).2))) (fun _ wr => s.size - atOf b wr)
  case atStart => exact ⟨at', ln, Nat.le_refl _, ha, Nat.le_refl _, by omega, HSw, HGw, HLw, HNw, Lib.hid (by simp)⟩
  case round =>
    obtain ⟨k, m, hak, hks, hlm, hmk, HS, HG, HL, HNo, HC⟩ := hrel
    rename World => W0
    clear HSw HGw HLw HNw
    have hat := HS.out.atOf
    have hll : s.data.toList.length = s.size := by simp
    obtain ⟨n, hn⟩ : ∃ n, cntP (has blL) (s.data.toList.drop k) = n := ⟨_, rfl⟩
    have hnle := cntP_le (has blL) (s.data.toList.drop k)
    rw [hn, List.length_drop, hll] at hnle
    obtain ⟨c, hc⟩ : ∃ c, Lib.countByte ((s.data.toList.drop k).take n) 10 = c := ⟨_, rfl⟩
    have hcle := count_le ((s.data.toList.drop k).take n)
    rw [hc, List.length_take, List.length_drop, hll] at hcle
    have T0 := fun (W : World) (e : W.heap = W0.heap) => take_oneOf b s k m W hs hks (HS.out.heap e) B blL (HL.out.heap e) (by decide)
    rw [hn] at T0
    have C0 := fun W => count_nl (bs ((s.data.toList.drop k).take n)) W
    rw [bs_list, hc] at C0
    generalize bs ((s.data.toList.drop k).take n) = x at *
    have T1 := Lib.hid T0
    have C1 := Lib.hid C0
    clear T0 C0
    have HMC : Hid (IntKind.i64.wrap ((m : Int) + (c : Int)) = ((m + c : Nat) : Int)) := Lib.hid (by simp only [IntKind.wrap]; simp [IntKind.signed, IntKind.bits]; omega)
    have k2 := HS.out.c2
    have f2 := HS.out.fz 2
    have hbl := HS.out.lt
    go_upto_region 1 with fail
    go_region_with (first | (go_at_call 32; (with_reducible refine (T1.out _ ?_).mono ?_); rfl; rintro e w1 ⟨rfl, hs1, hg1⟩; have q2 := hs1.c2; have g2 := hs1.fz 2) | (go_at_call 21; (with_reducible refine (C1.out _).mono ?_); rintro e w3 ⟨rfl, rfl⟩))
    all_goals (
      have hs1 := ‹Sc b s (k + n) m _›
      have hg1 := ‹World.grownBy W0.drew _ (some b)›
      rw [HMC.out]
      go_wp2
      go_name_world V hV
      have HSV : Hid (Sc b s (k + n) (m + c) V) := Lib.hid (by rw [← hV]; exact hs1.set2 (m + c) _ rfl)
      have hgv : W0.grownBy V (some b) := by rw [← hV]; exact grow_set (World.grownBy.trans (grow_drew (World.grownBy.refl _ _)) hg1) _ _
      have HGV := Lib.hid hgv
      have HLV := Lib.hid (HL.out.kept hgv (fun b' e => by cases e; exact ⟨_, _, _, HS.out⟩))
      have HNV := Lib.hid (HNo.out.kept hgv (fun b' e => by cases e; exact ⟨_, _, _, HS.out⟩))
      clear hs1 hg1 hV hgv)
    all_goals (
      have v0 := HSV.out.c0
      have v1 := HSV.out.c1
      have hkn : ((k + n : Nat) : Int) ≤ (s.size : Int) := by omega
      have hkn0 : 0 ≤ ((k + n : Nat) : Int) := by omega
      have P0 := fun (W : World) => rem_pre (s.extract (k + n) s.size) W
      rw [show (s.extract (k + n) s.size).data.toList = s.data.toList.drop (k + n) by rw [ext_bs, bs_list, List.take_of_length_le (by rw [List.length_drop, hll]; exact Nat.le_refl _)]] at P0
      cases hp : Lib.hasPrefix (s.data.toList.drop (k + n)) [45, 45] with
      | false =>
        rw [hp] at P0
        have P1 := Lib.hid fun j => (P0 (V.drewN j)).mono (fun e w' (h : _ ∧ _) => (⟨h.1, j, h.2⟩ : _ ∧ ∃ m, w' = V.drewN m))
        have hsk := sk_no (l := s.data.toList.drop k) (by rw [hn, List.drop_drop]; exact hp)
        rw [hn, hc] at hsk
        have HE1 : Hid (at' + (sk (s.data.toList.drop at')).1 = k + n) := Lib.hid (by rw [HC.out, hsk]; show at' + (k - at' + n) = _; omega)
        have HE2 : Hid (ln + (sk (s.data.toList.drop at')).2 = m + c) := Lib.hid (by rw [HC.out, hsk]; show ln + (m - ln + c) = _; omega)
        clear P0 hsk hp HC
        go_wp2
        go_quiet (first | (go_at_call 22; with_reducible exact P1.out _))
        go_wp2
        first | go_end0 | (refine bodyPost_ret (results_none rfl _ _ _) rfl ?_)
        refine ⟨rfl, ?_, ?_⟩
        · rw [HE1.out, HE2.out]; exact HSV.out.drewN _
        · exact grow_drewN (World.grownBy.trans HG.out HGV.out) _
      | true =>
        rw [hp] at P0
        have P1 := Lib.hid fun j => (P0 (V.drewN j)).mono (fun e w' (h : _ ∧ _) => (⟨h.1, j, h.2⟩ : _ ∧ ∃ m, w' = V.drewN m))
        have hsk := sk_yes (l := s.data.toList.drop k) (by rw [hn, List.drop_drop]; exact hp)
        rw [hn, hc, List.drop_drop] at hsk
        obtain ⟨q, hq⟩ : ∃ q, cntP (nah [10]) (s.data.toList.drop (k + n)) = q := ⟨_, rfl⟩
        have hql := cntP_le (nah [10]) (s.data.toList.drop (k + n))
        have hq2 := pre_cnt hp
        rw [hq] at hsk hq2
        rw [hq, List.length_drop, hll] at hql
        rw [List.drop_drop, ← Nat.add_assoc] at hsk
        have T2 := Lib.hid fun (W : World) (e : W.heap = V.heap) => take_noneOf b s (k + n) (m + c) W hs (by omega) (HSV.out.heap e) L [10] (HNV.out.heap e) (by decide)
        rw [hq] at T2
        have HC2 : Hid (sk (s.data.toList.drop at') = ((k + n + q - at') + (sk (s.data.toList.drop (k + n + q))).1, (m + c - ln) + (sk (s.data.toList.drop (k + n + q))).2)) := Lib.hid (by
          rw [HC.out, hsk]; show (_, _) = (_, _); rw [Prod.mk.injEq]; constructor <;> (simp only []; omega))
        clear P0 hsk hp HC hq
        go_wp2
        go_quiet (first | (go_at_call 22; with_reducible exact P1.out _))
        go_wp2_with (go_at_call 32; (with_reducible refine (T2.out _ ?_).mono ?_); exact World.heap_drewN _ _; rintro e w5 ⟨rfl, hs5, hg5⟩)
        go_roundw
        case rel =>
          have hv5 : V.grownBy w5 (some b) := World.grownBy.trans (grow_drewN (World.grownBy.refl _ _) _) hg5
          exact ⟨k + n + q, m + c, by omega, by omega, by omega, by omega, Lib.hid hs5, Lib.hid (World.grownBy.trans (World.grownBy.trans HG.out HGV.out) hv5), Lib.hid (HLV.out.kept hv5 (fun b' e => by cases e; exact ⟨_, _, _, HSV.out⟩)), Lib.hid (HNV.out.kept hv5 (fun b' e => by cases e; exact ⟨_, _, _, HSV.out⟩)), HC2⟩
        case measure => rw [Sc.atOf hs5, hat]; omega)
end Go.Proofs.YtbcbddglgfakpaaDoor
