/- Contracts of layer 3's laws: a strings.Builder that is read and written on; Grow. -/
import Derived.Test.YtbcbddglgfakpaaDoorLexO
import Derived.Test.YtbcbddglgfakpaaDoorShelf
import Derived.Test.YtbcbddglgfakpaaDoorShelfRp
import Derived.Shelf.Strings.BuilderF
import Derived.WalkSmall
import Derived.Shelf.Strings.Repeat
import Derived.Test.YtbcbddglgfakpaaDoorLexUb
import Derived.Test.YtbcbddglgfakpaaDoorLexUc
namespace Go.Proofs.YtbcbddglgfakpaaDoor
open Go.RowKit Go.Joins M3
set_option linter.unusedVariables false
abbrev BAF (B b : Nat) (l : List UInt8) (w : World) : Prop := Lib.BuilderAtF 44 5 B b (.pointer (some ⟨b, 0, none⟩)) (Lib.byteCells l) w
abbrev BIF (B b : Nat) (l : List UInt8) (w : World) : Prop := Lib.IsBuilderF 44 5 B b (Lib.byteCells l) w
theorem strF_any (B b : Nat) (l : List UInt8) (w : World) (h : BIF B b l w) (h0 : l ≠ []) :
    Calls Tryd.prog 28 #[(.pointer (some ⟨b, 0, none⟩))] w fun e w' => e = .returned (.string (bs l)) ∧ BIF B b l w' ∧ Below B w w' :=
  Any.Builder_String_f Tryd.lays169 Tryd.Builder_Extra_169 B b l w h h0
theorem lenF_any (B b : Nat) (l : List UInt8) (w : World) (h : BIF B b l w) :
    Calls Tryd.prog 27 #[(.pointer (some ⟨b, 0, none⟩))] w fun e w' => e = .returned (.int .i64 (l.length : Int)) ∧ w' = w :=
  (Any.Builder_Len_f Tryd.lays170 B b (Lib.byteCells l) w h).mono fun e w' ⟨h1, h2⟩ => ⟨by rw [h1, Lib.byteCells_length], h2⟩
theorem checkF_any (B b : Nat) (l : List UInt8) (w : World) (h : BIF B b l w) :
    Calls Tryd.prog 44 #[(.pointer (some ⟨b, 0, none⟩))] w fun e w' => e = .returned (.tuple #[]) ∧ BAF B b l w' ∧ Below B w w' := by
  rcases h with h | h
  · refine (bcheck_fresh b w h.cell0 h.shape h.frozen0).mono fun e w' ⟨g1, g2⟩ => ⟨g1, ?_, ?_⟩
    · rw [g2]; exact h.used _
    · rw [g2]; exact (Below.refl B w).setCell (p := ⟨b, 0, none⟩) h.1 _
  · exact (bcheck_used b w h.cell0).mono fun e w' ⟨g1, g2⟩ => ⟨g1, by rw [g2]; exact h, by rw [g2]; exact Below.refl B w⟩
set_option maxHeartbeats 1000000 in
theorem writeF_any (B b : Nat) (l : List UInt8) (s : ByteArray) (w : World) (h : BIF B b l w) (hlen : l.length + s.size ≤ 140737488355328) (hBw : B ≤ w.heap.size) :
    Calls Tryd.prog 26 #[(.pointer (some ⟨b, 0, none⟩)), .string s] w fun e w' => e = .returned (.tuple #[.int .i64 s.size, .nilIface]) ∧ BAF B b (l ++ s.data.toList) w' ∧ Below B w w' := by
  obtain ⟨i0, hi, hz0, hz1, hz2⟩ := info_parts bbyte
  have C1 := Lib.hid (checkF_any B b l w h)
  clear h
  go_enter Tryd.func26, Tryd.ntmps26
  go_upto_region 2 with (go_at_call 44; (with_reducible refine (C1.out).mono ?_); rintro e w1 ⟨rfl, h1, hb1⟩)
  have hw1 := hb1.size
  obtain ⟨hB, v, hbk, hown, hne⟩ := h1
  have hlt : b < w1.heap.size := (Array.getElem?_eq_some_iff.1 hbk).1
  have c1 : w1.cell? ⟨b, 1, none⟩ = some v := by simp [World.cell?, hbk]
  have HB := Lib.hid hbk
  have HN := Lib.hid hne
  have HOW := Lib.hid hown
  have HB1 := Lib.hid hb1
  clear hbk hne hown hb1
  go_wp2_with (at_builtin; refine Lib.wpList_append_own_stringF _ rfl _ _ 42 9 rfl B 5 i0 Tryd.underlying42 Tryd.underlying9 hi hz0 hz1 hz2 _ _ _ rfl HOW.out s rfl (by unfold maxLen; rw [Lib.byteCells_length]; omega) (by rw [Lib.byteCells_length]; omega) (by omega) ?_)
  intro v2 w2 hown2 hgrow _
  have hb2 : w2.heap[b]? = some (.cells #[(.pointer (some ⟨b, 0, none⟩)), v] 44 (0, 0)) := by
    rw [hgrow.block b hlt (fun e => HN.out e.symm)]; exact HB.out
  have d1 : w2.cell? ⟨b, 1, none⟩ = some v := by simp [World.cell?, hb2]
  have f1 : w2.frozen? ⟨b, 1, none⟩ = false := by simp [World.frozen?, hb2]
  have hsl : ∃ a n cap, v2 = .slice a n cap := by
    rcases hown2.2 with ⟨e, _⟩ | ⟨g, cap, cur, fz, e, _⟩
    · exact ⟨_, _, _, e⟩
    · exact ⟨_, _, _, e⟩
  obtain ⟨a, n, cap, rfl⟩ := hsl
  have HP := Lib.hid (Lib.BuilderAtF.put hB hb2 (show w2.ownsRowF B 5 1 _ (Lib.byteCells l ++ Lib.strCells s).length _ by simpa [Lib.strCells_length] using hown2) bne)
  have HE := Lib.hid ((HB1.out.grown hgrow (by omega) (fun k e => (HOW.out.lt k e).1)).setCell (p := ⟨b, 1, none⟩) hB (.slice a n cap))
  clear hb2 hown2 hgrow
  go_wp2
  go_ret2
  refine ⟨rfl, ?_, HE.out⟩
  show Lib.BuilderAtF _ _ B b _ (Lib.byteCells (l ++ s.data.toList)) _
  rw [show Lib.byteCells (l ++ s.data.toList) = Lib.byteCells l ++ Lib.strCells s by simp [Lib.byteCells, Lib.strCells]]
  exact HP.out
set_option maxHeartbeats 1000000 in
theorem growF_any (B b n : Nat) (w : World) (hB : B ≤ b) (hbk : w.heap[b]? = some (.cells #[.pointer none, .slice none 0 0] 44 (0, 0))) (hBw : B ≤ w.heap.size) (h0 : 0 < n) (hn : n ≤ 1000000) :
    Calls Tryd.prog 25 #[(.pointer (some ⟨b, 0, none⟩)), .int .i64 (n : Int)] w fun e w' => e = .returned (.tuple #[]) ∧ BAF B b [] w' ∧ Below B w w' := by
  have hlt : b < w.heap.size := (Array.getElem?_eq_some_iff.1 hbk).1
  have C1 := Lib.hid (bcheck_fresh b w (by simp [World.cell?, hbk]) (by simp [World.shape?, hbk]) (by simp [World.frozen?, hbk]))
  have hw2 : (w.setCell ⟨b, 0, none⟩ (.pointer (some ⟨b, 0, none⟩))).heap[b]? = some (.cells #[(.pointer (some ⟨b, 0, none⟩)), .slice none 0 0] 44 (0, 0)) := by
    simp [World.setCell, Array.getElem?_modify, hbk]
  have hsz : (w.setCell ⟨b, 0, none⟩ (.pointer (some ⟨b, 0, none⟩))).heap.size = w.heap.size := by simp [World.setCell]
  have hb2 := (Below.refl B w).setCell (p := ⟨b, 0, none⟩) hB (.pointer (some ⟨b, 0, none⟩))
  have n0 : ¬ (n : Int) < 0 := by omega
  have n1 : (0 : Int) < (n : Int) := by omega
  go_enter Tryd.func25, Tryd.ntmps25
  go_upto_region 1 with (go_at_call 44; (with_reducible refine (C1.out).mono ?_); rintro e w1 ⟨rfl, h1⟩; subst w1)
  generalize w.setCell ⟨b, 0, none⟩ (.pointer (some ⟨b, 0, none⟩)) = W at *
  have c1 : W.cell? ⟨b, 1, none⟩ = some (.slice none 0 0) := by simp [World.cell?, hw2]
  have c0 : W.cell? ⟨b, 0, none⟩ = some (.pointer (some ⟨b, 0, none⟩)) := by simp [World.cell?, hw2]
  have G1 := Lib.hid fun j => Tryd.Builder_grow_fresh B b n (W.drewN j) hB (by simpa using hw2) (by simp; omega) (by omega)
  clear C1 hbk
  go_wp2
  go_quiet (fail)
  go_wp2_with (go_at_call 45; (with_reducible refine (G1.out _).mono ?_); rintro e w3 ⟨rfl, h3, hb3⟩)
  go_end0
  exact ⟨rfl, Lib.BuilderAtF.of h3, hb2.trans (Below.trans (below_drewN (Below.refl B W) _) hb3)⟩
theorem mul_any (n : Nat) (hn : n ≤ 1000000) (w : World) : Calls Tryd.prog 24 #[.int .u64 1, .int .u64 (n : Int)] w fun e w' => e = .returned (.tuple #[.int .u64 0, .int .u64 (n : Int)]) ∧ w' = w := by
  have := Tryd.bits_Mul 1 n (by decide) (by omega) w
  rw [show 1 * n / 18446744073709551616 = 0 by omega, show 1 * n % 18446744073709551616 = n by omega] at this
  exact this
/-- How many bytes a builder holds. -/
def lenOf (b : Nat) (w : World) : Nat := match w.cell? ⟨b, 1, none⟩ with
  | some (.slice _ n _) => n
  | _ => 0
theorem lenOf_eq {B b : Nat} {l : List UInt8} {w : World} (h : BIF B b l w) : lenOf b w = l.length := by
  have key : ∀ p, Lib.BuilderAtF 44 5 B b p (Lib.byteCells l) w → lenOf b w = l.length := by
    rintro p ⟨_, v, hbk, hown, _⟩
    have c1 : w.cell? ⟨b, 1, none⟩ = some v := by simp [World.cell?, hbk]
    unfold lenOf
    rw [c1]
    rcases hown.2 with ⟨e, h0⟩ | ⟨g, cap, cur, fz, e, _⟩
    · rw [e]; rw [Lib.byteCells_length] at h0; exact h0.symm
    · rw [e]; exact Lib.byteCells_length l
  rcases h with h | h
  · exact key _ h
  · exact key _ h
theorem ne2R (c : UInt8) (n : Nat) (hn : n < 256) (h : c ≠ UInt8.ofNat n) : ((c.toNat : Int) == (n : Int)) = false := by
  rw [beq_eq_false_iff_ne]; intro e; exact h (UInt8.toNat_inj.1 (by simp; omega))

set_option maxHeartbeats 8000000 in
set_option maxRecDepth 100000 in
theorem rep_any (s : ByteArray) (c : UInt8) (n : Nat) (w : World) (h1 : s.size = 1) (hc : s[0] = c) (hn : 2 ≤ n) (hn2 : n ≤ 70000) (c0 : c ≠ 32 ∨ 128 < n) (c1 : c ≠ 45) (c2 : c ≠ 48) (c3 : c ≠ 61) (c4 : c ≠ 9) :
    Calls Tryd.prog 11 #[.string s, .int .i64 (n : Int)] w fun e w' => e = .returned (.string (bs (List.replicate n c))) ∧ Below w.heap.size w w' := by
  have hs1 : (s.size : Int) = 1 := by omega
  have hci : (s[0].toNat : Int) = (c.toNat : Int) := by rw [hc]
  have hsl : s.data.toList = [c] := by
    have hl : s.data.toList.length = 1 := by rw [Array.length_toList]; exact h1
    match e : s.data.toList, hl with
    | [d], _ =>
      have : s.data.toList[0]'(by rw [e]; simp) = s[0] := by simp; rfl
      simp only [e, List.getElem_cons_zero] at this
      rw [this, hc]
  have a0 : ((n : Int) == 0) = false := by rw [beq_eq_false_iff_ne]; omega
  have a1 : ((n : Int) == 1) = false := by rw [beq_eq_false_iff_ne]; omega
  have a2 : ¬ (n : Int) < 0 := by omega
  have a3 : ¬ (9223372036854775807 : Int) < (n : Int) := by omega
  have a4 : 0 ≤ (n : Int) := by omega
  have M1 := Lib.hid fun w => mul_any n (by omega) w
  have e1 : ((c.toNat : Int) == 45) = false := ne2R c 45 (by decide) c1
  have e2 : ((c.toNat : Int) == 48) = false := ne2R c 48 (by decide) c2
  have e3 : ((c.toNat : Int) == 61) = false := ne2R c 61 (by decide) c3
  have e4 : ((c.toNat : Int) == 9) = false := ne2R c 9 (by decide) c4
  by_cases h32 : c = 32
  · have hn128 : 128 < n := by
      rcases c0 with h | h
      · exact absurd h32 h
      · exact h
    have e0 : ((c.toNat : Int) == 32) = true := by rw [h32]; rfl
    have f1 : ¬ (n : Int) ≤ 128 := by omega
    have f2 : ¬ (n : Int) ≤ 64 := by omega
    clear c0 c1 c2 c3 c4 hc h32
    go_enter Tryd.func11, Tryd.ntmps11
    go_upto_region 30 with (go_at_call 24; (with_reducible refine (M1.out _).mono ?_); rintro e w1 ⟨rfl, h1⟩; subst w1)
    by_cases h8 : 8192 < n
    · have h8' : 8192 < (n : Int) := by omega
      obtain ⟨cm, hcm⟩ : ∃ cm : Nat, 8192 = cm := ⟨_, rfl⟩
      have hcm1 : 1 ≤ cm := by omega
      have HCM := Lib.hid hcm
      clear hcm
      have k1 : (8192 : Int) / 1 = 8192 := by decide
      have k2 : (8192 : Int) * 1 = 8192 := by decide
      have k3 : IntKind.i64.wrap 8192 = 8192 := by decide
      go_upto_region 36 with fail
      go_name_world V hV
      have hbk : V.heap[w.heap.size]? = some (.cells #[.pointer none, .slice none 0 0] 44 (0, 0)) := by rw [← hV]; exact heap_alloc_new w _
      have hBV : Below w.heap.size w V := by rw [← hV]; exact (Below.refl _ _).alloc (Nat.le_refl _) _
      have hzV := hBV.size
      have G1 := Lib.hid (growF_any w.heap.size w.heap.size n V (Nat.le_refl _) hbk hzV (by omega) (by omega))
      clear hV hbk
      have HBV := Lib.hid hBV
      clear hBV
      have HWR := Lib.hid fun W (h : BAF w.heap.size w.heap.size [] W) (hz : w.heap.size ≤ W.heap.size) => writeF_any w.heap.size w.heap.size [] s W (.inr h) (by simp; omega) hz
      go_upto_region 38 with (first | (go_at_call 25; (with_reducible refine (G1.out).mono ?_); rintro e w2 ⟨rfl, h2, hb2⟩) | (go_at_call 26; (with_reducible refine (HWR.out _ h2 (by have := hb2.size; omega)).mono ?_); rintro e w3 ⟨rfl, h3, hb3⟩))
      rw [List.nil_append, hsl] at h3
      have HI0 : Hid (BIF w.heap.size w.heap.size (List.replicate 1 c) w3) := Lib.hid (.inr h3)
      have HB0 : Hid (Below w.heap.size w w3) := Lib.hid (HBV.out.trans (hb2.trans hb3))
      clear h2 hb2 h3 hb3 HWR G1 HBV
      go_loopw [10] (fun _ wr => ∃ k : Nat, 1 ≤ k ∧ k ≤ n ∧ Hid (BIF w.heap.size w.heap.size (List.replicate k c) wr) ∧ Hid (Below w.heap.size w wr)) (fun _ wr => n - lenOf w.heap.size wr)
      case atStart => exact ⟨1, Nat.le_refl _, by omega, HI0, HB0⟩
      case round =>
        obtain ⟨k, hk1, hkn, HI, HB⟩ := hrel
        rename World => W0
        have hlk := lenOf_eq HI.out
        rw [List.length_replicate] at hlk
        have hz0 := HB.out.size
        have LN0 := lenF_any w.heap.size w.heap.size (List.replicate k c) W0 HI.out
        rw [List.length_replicate] at LN0
        have LN1 := Lib.hid LN0
        have hne : List.replicate k c ≠ [] := by intro e; have := congrArg List.length e; rw [List.length_replicate, List.length_nil] at this; omega
        have ST1 := Lib.hid (strF_any w.heap.size w.heap.size (List.replicate k c) W0 HI.out hne)
        clear LN0 hne
        by_cases hkl : k < n
        · have hkl' : (k : Int) < (n : Int) := by omega
          obtain ⟨ch, hch⟩ : ∃ ch : Nat, min (n - k) (min k cm) = ch := ⟨_, rfl⟩
          have hcmo := HCM.out
          have hc1 : 1 ≤ ch := by omega
          have hc2 : ch ≤ k := by omega
          have hc3 : k + ch ≤ n := by omega
          obtain ⟨d, hd⟩ : ∃ d : Nat, n - k = d := ⟨_, rfl⟩
          have hd1 : (n : Int) - (k : Int) = (d : Int) := by omega
          have hd2 : IntKind.i64.wrap ((n : Int) - (k : Int)) = (d : Int) := by rw [hd1]; simp only [IntKind.wrap]; simp [IntKind.signed, IntKind.bits]; omega
          have hd3 : IntKind.i64.wrap (d : Int) = (d : Int) := by simp only [IntKind.wrap]; simp [IntKind.signed, IntKind.bits]; omega
          have hmin : ∀ W : World, (Builtin.min_ #[3, 3, 3] 3 #[.int .i64 (d : Int), .int .i64 (k : Int), .int .i64 8192]).run Tryd.prog W = .ok (.int .i64 (ch : Int)) W := fun W => by
            rw [run_min_int3]
            congr 2
            rw [← hch]
            split <;> split <;> omega
          clear hcmo
          go_upto_region 40 with (go_at_call 27; (with_reducible refine (LN1.out).mono ?_); rintro e w4 ⟨rfl, h4⟩; subst w4)
          obtain ⟨y, hy⟩ : ∃ y, bs (List.replicate k c) = y := ⟨_, rfl⟩
          have hys : y.size = k := by rw [← hy, bs_size, List.length_replicate]
          have hy1 : (ch : Int) ≤ (y.size : Int) := by omega
          have hy2 : 0 ≤ (ch : Int) := by omega
          have hext : (y.extract 0 ch).data.toList = List.replicate ch c := by
            rw [← hy, ext_bs, bs_list, List.drop_zero, Nat.sub_zero, bs_list, List.take_replicate, show min ch k = ch by omega]
          have hexs : (y.extract 0 ch).size ≤ 100000 := by
            have : (y.extract 0 ch).data.toList.length = (y.extract 0 ch).size := Array.length_toList
            rw [hext, List.length_replicate] at this; omega
          have WR2 := fun W (h : BIF w.heap.size w.heap.size (List.replicate k c) W) (hz : w.heap.size ≤ W.heap.size) => writeF_any w.heap.size w.heap.size (List.replicate k c) (y.extract 0 ch) W h (by rw [List.length_replicate]; omega) hz
          rw [hext, List.replicate_append_replicate] at WR2
          have WR3 := Lib.hid WR2
          rw [hy] at ST1
          have HYS := Lib.hid hys
          clear WR2 hext hexs hy hys hmin
          go_wp2_with (first | (go_at_call 28; (with_reducible refine (ST1.out).mono ?_); rintro e w5 ⟨rfl, h5, hb5⟩) | (go_at_call 26; (with_reducible refine (WR3.out _ h5 (by have := hb5.size; omega)).mono ?_); rintro e w6 ⟨rfl, h6, hb6⟩))
          go_roundw
          case rel => exact ⟨k + ch, by omega, by omega, Lib.hid (.inr h6), Lib.hid (HB.out.trans (hb5.trans hb6))⟩
          case measure => rw [lenOf_eq (.inr h6), List.length_replicate, hlk]; omega
        · have hkl' : ¬ (k : Int) < (n : Int) := by omega
          have hkn' : k = n := by omega
          subst hkn'
          go_upto_region 41 with (first | (go_at_call 27; (with_reducible refine (LN1.out).mono ?_); rintro e w4 ⟨rfl, h4⟩; subst w4))
          go_wp2_with (go_at_call 28; (with_reducible refine (ST1.out).mono ?_); rintro e w5 ⟨rfl, h5, hb5⟩)
          go_ret
          exact ⟨rfl, HB.out.trans hb5⟩
    · have h8' : ¬ 8192 < (n : Int) := by omega
      obtain ⟨cm, hcm⟩ : ∃ cm : Nat, n = cm := ⟨_, rfl⟩
      have hcm1 : 1 ≤ cm := by omega
      have HCM := Lib.hid hcm
      clear hcm
      go_upto_region 36 with fail
      go_name_world V hV
      have hbk : V.heap[w.heap.size]? = some (.cells #[.pointer none, .slice none 0 0] 44 (0, 0)) := by rw [← hV]; exact heap_alloc_new w _
      have hBV : Below w.heap.size w V := by rw [← hV]; exact (Below.refl _ _).alloc (Nat.le_refl _) _
      have hzV := hBV.size
      have G1 := Lib.hid (growF_any w.heap.size w.heap.size n V (Nat.le_refl _) hbk hzV (by omega) (by omega))
      clear hV hbk
      have HBV := Lib.hid hBV
      clear hBV
      have HWR := Lib.hid fun W (h : BAF w.heap.size w.heap.size [] W) (hz : w.heap.size ≤ W.heap.size) => writeF_any w.heap.size w.heap.size [] s W (.inr h) (by simp; omega) hz
      go_upto_region 38 with (first | (go_at_call 25; (with_reducible refine (G1.out).mono ?_); rintro e w2 ⟨rfl, h2, hb2⟩) | (go_at_call 26; (with_reducible refine (HWR.out _ h2 (by have := hb2.size; omega)).mono ?_); rintro e w3 ⟨rfl, h3, hb3⟩))
      rw [List.nil_append, hsl] at h3
      have HI0 : Hid (BIF w.heap.size w.heap.size (List.replicate 1 c) w3) := Lib.hid (.inr h3)
      have HB0 : Hid (Below w.heap.size w w3) := Lib.hid (HBV.out.trans (hb2.trans hb3))
      clear h2 hb2 h3 hb3 HWR G1 HBV
      go_loopw [10] (fun _ wr => ∃ k : Nat, 1 ≤ k ∧ k ≤ n ∧ Hid (BIF w.heap.size w.heap.size (List.replicate k c) wr) ∧ Hid (Below w.heap.size w wr)) (fun _ wr => n - lenOf w.heap.size wr)
      case atStart => exact ⟨1, Nat.le_refl _, by omega, HI0, HB0⟩
      case round =>
        obtain ⟨k, hk1, hkn, HI, HB⟩ := hrel
        rename World => W0
        have hlk := lenOf_eq HI.out
        rw [List.length_replicate] at hlk
        have hz0 := HB.out.size
        have LN0 := lenF_any w.heap.size w.heap.size (List.replicate k c) W0 HI.out
        rw [List.length_replicate] at LN0
        have LN1 := Lib.hid LN0
        have hne : List.replicate k c ≠ [] := by intro e; have := congrArg List.length e; rw [List.length_replicate, List.length_nil] at this; omega
        have ST1 := Lib.hid (strF_any w.heap.size w.heap.size (List.replicate k c) W0 HI.out hne)
        clear LN0 hne
        by_cases hkl : k < n
        · have hkl' : (k : Int) < (n : Int) := by omega
          obtain ⟨ch, hch⟩ : ∃ ch : Nat, min (n - k) (min k cm) = ch := ⟨_, rfl⟩
          have hcmo := HCM.out
          have hc1 : 1 ≤ ch := by omega
          have hc2 : ch ≤ k := by omega
          have hc3 : k + ch ≤ n := by omega
          obtain ⟨d, hd⟩ : ∃ d : Nat, n - k = d := ⟨_, rfl⟩
          have hd1 : (n : Int) - (k : Int) = (d : Int) := by omega
          have hd2 : IntKind.i64.wrap ((n : Int) - (k : Int)) = (d : Int) := by rw [hd1]; simp only [IntKind.wrap]; simp [IntKind.signed, IntKind.bits]; omega
          have hd3 : IntKind.i64.wrap (d : Int) = (d : Int) := by simp only [IntKind.wrap]; simp [IntKind.signed, IntKind.bits]; omega
          have hmin : ∀ W : World, (Builtin.min_ #[3, 3, 3] 3 #[.int .i64 (d : Int), .int .i64 (k : Int), .int .i64 (n : Int)]).run Tryd.prog W = .ok (.int .i64 (ch : Int)) W := fun W => by
            rw [run_min_int3]
            congr 2
            rw [← hch]
            split <;> split <;> omega
          clear hcmo
          go_upto_region 40 with (go_at_call 27; (with_reducible refine (LN1.out).mono ?_); rintro e w4 ⟨rfl, h4⟩; subst w4)
          obtain ⟨y, hy⟩ : ∃ y, bs (List.replicate k c) = y := ⟨_, rfl⟩
          have hys : y.size = k := by rw [← hy, bs_size, List.length_replicate]
          have hy1 : (ch : Int) ≤ (y.size : Int) := by omega
          have hy2 : 0 ≤ (ch : Int) := by omega
          have hext : (y.extract 0 ch).data.toList = List.replicate ch c := by
            rw [← hy, ext_bs, bs_list, List.drop_zero, Nat.sub_zero, bs_list, List.take_replicate, show min ch k = ch by omega]
          have hexs : (y.extract 0 ch).size ≤ 100000 := by
            have : (y.extract 0 ch).data.toList.length = (y.extract 0 ch).size := Array.length_toList
            rw [hext, List.length_replicate] at this; omega
          have WR2 := fun W (h : BIF w.heap.size w.heap.size (List.replicate k c) W) (hz : w.heap.size ≤ W.heap.size) => writeF_any w.heap.size w.heap.size (List.replicate k c) (y.extract 0 ch) W h (by rw [List.length_replicate]; omega) hz
          rw [hext, List.replicate_append_replicate] at WR2
          have WR3 := Lib.hid WR2
          rw [hy] at ST1
          have HYS := Lib.hid hys
          clear WR2 hext hexs hy hys hmin
          go_wp2_with (first | (go_at_call 28; (with_reducible refine (ST1.out).mono ?_); rintro e w5 ⟨rfl, h5, hb5⟩) | (go_at_call 26; (with_reducible refine (WR3.out _ h5 (by have := hb5.size; omega)).mono ?_); rintro e w6 ⟨rfl, h6, hb6⟩))
          go_roundw
          case rel => exact ⟨k + ch, by omega, by omega, Lib.hid (.inr h6), Lib.hid (HB.out.trans (hb5.trans hb6))⟩
          case measure => rw [lenOf_eq (.inr h6), List.length_replicate, hlk]; omega
        · have hkl' : ¬ (k : Int) < (n : Int) := by omega
          have hkn' : k = n := by omega
          subst hkn'
          go_upto_region 41 with (first | (go_at_call 27; (with_reducible refine (LN1.out).mono ?_); rintro e w4 ⟨rfl, h4⟩; subst w4))
          go_wp2_with (go_at_call 28; (with_reducible refine (ST1.out).mono ?_); rintro e w5 ⟨rfl, h5, hb5⟩)
          go_ret
          exact ⟨rfl, HB.out.trans hb5⟩
  · have e0 : ((c.toNat : Int) == 32) = false := ne2R c 32 (by decide) h32
    clear c0 c1 c2 c3 c4 hc h32
    go_enter Tryd.func11, Tryd.ntmps11
    go_upto_region 30 with (go_at_call 24; (with_reducible refine (M1.out _).mono ?_); rintro e w1 ⟨rfl, h1⟩; subst w1)
    by_cases h8 : 8192 < n
    · have h8' : 8192 < (n : Int) := by omega
      obtain ⟨cm, hcm⟩ : ∃ cm : Nat, 8192 = cm := ⟨_, rfl⟩
      have hcm1 : 1 ≤ cm := by omega
      have HCM := Lib.hid hcm
      clear hcm
      have k1 : (8192 : Int) / 1 = 8192 := by decide
      have k2 : (8192 : Int) * 1 = 8192 := by decide
      have k3 : IntKind.i64.wrap 8192 = 8192 := by decide
      go_upto_region 36 with fail
      go_name_world V hV
      have hbk : V.heap[w.heap.size]? = some (.cells #[.pointer none, .slice none 0 0] 44 (0, 0)) := by rw [← hV]; exact heap_alloc_new w _
      have hBV : Below w.heap.size w V := by rw [← hV]; exact (Below.refl _ _).alloc (Nat.le_refl _) _
      have hzV := hBV.size
      have G1 := Lib.hid (growF_any w.heap.size w.heap.size n V (Nat.le_refl _) hbk hzV (by omega) (by omega))
      clear hV hbk
      have HBV := Lib.hid hBV
      clear hBV
      have HWR := Lib.hid fun W (h : BAF w.heap.size w.heap.size [] W) (hz : w.heap.size ≤ W.heap.size) => writeF_any w.heap.size w.heap.size [] s W (.inr h) (by simp; omega) hz
      go_upto_region 38 with (first | (go_at_call 25; (with_reducible refine (G1.out).mono ?_); rintro e w2 ⟨rfl, h2, hb2⟩) | (go_at_call 26; (with_reducible refine (HWR.out _ h2 (by have := hb2.size; omega)).mono ?_); rintro e w3 ⟨rfl, h3, hb3⟩))
      rw [List.nil_append, hsl] at h3
      have HI0 : Hid (BIF w.heap.size w.heap.size (List.replicate 1 c) w3) := Lib.hid (.inr h3)
      have HB0 : Hid (Below w.heap.size w w3) := Lib.hid (HBV.out.trans (hb2.trans hb3))
      clear h2 hb2 h3 hb3 HWR G1 HBV
      go_loopw [10] (fun _ wr => ∃ k : Nat, 1 ≤ k ∧ k ≤ n ∧ Hid (BIF w.heap.size w.heap.size (List.replicate k c) wr) ∧ Hid (Below w.heap.size w wr)) (fun _ wr => n - lenOf w.heap.size wr)
      case atStart => exact ⟨1, Nat.le_refl _, by omega, HI0, HB0⟩
      case round =>
        obtain ⟨k, hk1, hkn, HI, HB⟩ := hrel
        rename World => W0
        have hlk := lenOf_eq HI.out
        rw [List.length_replicate] at hlk
        have hz0 := HB.out.size
        have LN0 := lenF_any w.heap.size w.heap.size (List.replicate k c) W0 HI.out
        rw [List.length_replicate] at LN0
        have LN1 := Lib.hid LN0
        have hne : List.replicate k c ≠ [] := by intro e; have := congrArg List.length e; rw [List.length_replicate, List.length_nil] at this; omega
        have ST1 := Lib.hid (strF_any w.heap.size w.heap.size (List.replicate k c) W0 HI.out hne)
        clear LN0 hne
        by_cases hkl : k < n
        · have hkl' : (k : Int) < (n : Int) := by omega
          obtain ⟨ch, hch⟩ : ∃ ch : Nat, min (n - k) (min k cm) = ch := ⟨_, rfl⟩
          have hcmo := HCM.out
          have hc1 : 1 ≤ ch := by omega
          have hc2 : ch ≤ k := by omega
          have hc3 : k + ch ≤ n := by omega
          obtain ⟨d, hd⟩ : ∃ d : Nat, n - k = d := ⟨_, rfl⟩
          have hd1 : (n : Int) - (k : Int) = (d : Int) := by omega
          have hd2 : IntKind.i64.wrap ((n : Int) - (k : Int)) = (d : Int) := by rw [hd1]; simp only [IntKind.wrap]; simp [IntKind.signed, IntKind.bits]; omega
          have hd3 : IntKind.i64.wrap (d : Int) = (d : Int) := by simp only [IntKind.wrap]; simp [IntKind.signed, IntKind.bits]; omega
          have hmin : ∀ W : World, (Builtin.min_ #[3, 3, 3] 3 #[.int .i64 (d : Int), .int .i64 (k : Int), .int .i64 8192]).run Tryd.prog W = .ok (.int .i64 (ch : Int)) W := fun W => by
            rw [run_min_int3]
            congr 2
            rw [← hch]
            split <;> split <;> omega
          clear hcmo
          go_upto_region 40 with (go_at_call 27; (with_reducible refine (LN1.out).mono ?_); rintro e w4 ⟨rfl, h4⟩; subst w4)
          obtain ⟨y, hy⟩ : ∃ y, bs (List.replicate k c) = y := ⟨_, rfl⟩
          have hys : y.size = k := by rw [← hy, bs_size, List.length_replicate]
          have hy1 : (ch : Int) ≤ (y.size : Int) := by omega
          have hy2 : 0 ≤ (ch : Int) := by omega
          have hext : (y.extract 0 ch).data.toList = List.replicate ch c := by
            rw [← hy, ext_bs, bs_list, List.drop_zero, Nat.sub_zero, bs_list, List.take_replicate, show min ch k = ch by omega]
          have hexs : (y.extract 0 ch).size ≤ 100000 := by
            have : (y.extract 0 ch).data.toList.length = (y.extract 0 ch).size := Array.length_toList
            rw [hext, List.length_replicate] at this; omega
          have WR2 := fun W (h : BIF w.heap.size w.heap.size (List.replicate k c) W) (hz : w.heap.size ≤ W.heap.size) => writeF_any w.heap.size w.heap.size (List.replicate k c) (y.extract 0 ch) W h (by rw [List.length_replicate]; omega) hz
          rw [hext, List.replicate_append_replicate] at WR2
          have WR3 := Lib.hid WR2
          rw [hy] at ST1
          have HYS := Lib.hid hys
          clear WR2 hext hexs hy hys hmin
          go_wp2_with (first | (go_at_call 28; (with_reducible refine (ST1.out).mono ?_); rintro e w5 ⟨rfl, h5, hb5⟩) | (go_at_call 26; (with_reducible refine (WR3.out _ h5 (by have := hb5.size; omega)).mono ?_); rintro e w6 ⟨rfl, h6, hb6⟩))
          go_roundw
          case rel => exact ⟨k + ch, by omega, by omega, Lib.hid (.inr h6), Lib.hid (HB.out.trans (hb5.trans hb6))⟩
          case measure => rw [lenOf_eq (.inr h6), List.length_replicate, hlk]; omega
        · have hkl' : ¬ (k : Int) < (n : Int) := by omega
          have hkn' : k = n := by omega
          subst hkn'
          go_upto_region 41 with (first | (go_at_call 27; (with_reducible refine (LN1.out).mono ?_); rintro e w4 ⟨rfl, h4⟩; subst w4))
          go_wp2_with (go_at_call 28; (with_reducible refine (ST1.out).mono ?_); rintro e w5 ⟨rfl, h5, hb5⟩)
          go_ret
          exact ⟨rfl, HB.out.trans hb5⟩
    · have h8' : ¬ 8192 < (n : Int) := by omega
      obtain ⟨cm, hcm⟩ : ∃ cm : Nat, n = cm := ⟨_, rfl⟩
      have hcm1 : 1 ≤ cm := by omega
      have HCM := Lib.hid hcm
      clear hcm
      go_upto_region 36 with fail
      go_name_world V hV
      have hbk : V.heap[w.heap.size]? = some (.cells #[.pointer none, .slice none 0 0] 44 (0, 0)) := by rw [← hV]; exact heap_alloc_new w _
      have hBV : Below w.heap.size w V := by rw [← hV]; exact (Below.refl _ _).alloc (Nat.le_refl _) _
      have hzV := hBV.size
      have G1 := Lib.hid (growF_any w.heap.size w.heap.size n V (Nat.le_refl _) hbk hzV (by omega) (by omega))
      clear hV hbk
      have HBV := Lib.hid hBV
      clear hBV
      have HWR := Lib.hid fun W (h : BAF w.heap.size w.heap.size [] W) (hz : w.heap.size ≤ W.heap.size) => writeF_any w.heap.size w.heap.size [] s W (.inr h) (by simp; omega) hz
      go_upto_region 38 with (first | (go_at_call 25; (with_reducible refine (G1.out).mono ?_); rintro e w2 ⟨rfl, h2, hb2⟩) | (go_at_call 26; (with_reducible refine (HWR.out _ h2 (by have := hb2.size; omega)).mono ?_); rintro e w3 ⟨rfl, h3, hb3⟩))
      rw [List.nil_append, hsl] at h3
      have HI0 : Hid (BIF w.heap.size w.heap.size (List.replicate 1 c) w3) := Lib.hid (.inr h3)
      have HB0 : Hid (Below w.heap.size w w3) := Lib.hid (HBV.out.trans (hb2.trans hb3))
      clear h2 hb2 h3 hb3 HWR G1 HBV
      go_loopw [10] (fun _ wr => ∃ k : Nat, 1 ≤ k ∧ k ≤ n ∧ Hid (BIF w.heap.size w.heap.size (List.replicate k c) wr) ∧ Hid (Below w.heap.size w wr)) (fun _ wr => n - lenOf w.heap.size wr)
      case atStart => exact ⟨1, Nat.le_refl _, by omega, HI0, HB0⟩
      case round =>
        obtain ⟨k, hk1, hkn, HI, HB⟩ := hrel
        rename World => W0
        have hlk := lenOf_eq HI.out
        rw [List.length_replicate] at hlk
        have hz0 := HB.out.size
        have LN0 := lenF_any w.heap.size w.heap.size (List.replicate k c) W0 HI.out
        rw [List.length_replicate] at LN0
        have LN1 := Lib.hid LN0
        have hne : List.replicate k c ≠ [] := by intro e; have := congrArg List.length e; rw [List.length_replicate, List.length_nil] at this; omega
        have ST1 := Lib.hid (strF_any w.heap.size w.heap.size (List.replicate k c) W0 HI.out hne)
        clear LN0 hne
        by_cases hkl : k < n
        · have hkl' : (k : Int) < (n : Int) := by omega
          obtain ⟨ch, hch⟩ : ∃ ch : Nat, min (n - k) (min k cm) = ch := ⟨_, rfl⟩
          have hcmo := HCM.out
          have hc1 : 1 ≤ ch := by omega
          have hc2 : ch ≤ k := by omega
          have hc3 : k + ch ≤ n := by omega
          obtain ⟨d, hd⟩ : ∃ d : Nat, n - k = d := ⟨_, rfl⟩
          have hd1 : (n : Int) - (k : Int) = (d : Int) := by omega
          have hd2 : IntKind.i64.wrap ((n : Int) - (k : Int)) = (d : Int) := by rw [hd1]; simp only [IntKind.wrap]; simp [IntKind.signed, IntKind.bits]; omega
          have hd3 : IntKind.i64.wrap (d : Int) = (d : Int) := by simp only [IntKind.wrap]; simp [IntKind.signed, IntKind.bits]; omega
          have hmin : ∀ W : World, (Builtin.min_ #[3, 3, 3] 3 #[.int .i64 (d : Int), .int .i64 (k : Int), .int .i64 (n : Int)]).run Tryd.prog W = .ok (.int .i64 (ch : Int)) W := fun W => by
            rw [run_min_int3]
            congr 2
            rw [← hch]
            split <;> split <;> omega
          clear hcmo
          go_upto_region 40 with (go_at_call 27; (with_reducible refine (LN1.out).mono ?_); rintro e w4 ⟨rfl, h4⟩; subst w4)
          obtain ⟨y, hy⟩ : ∃ y, bs (List.replicate k c) = y := ⟨_, rfl⟩
          have hys : y.size = k := by rw [← hy, bs_size, List.length_replicate]
          have hy1 : (ch : Int) ≤ (y.size : Int) := by omega
          have hy2 : 0 ≤ (ch : Int) := by omega
          have hext : (y.extract 0 ch).data.toList = List.replicate ch c := by
            rw [← hy, ext_bs, bs_list, List.drop_zero, Nat.sub_zero, bs_list, List.take_replicate, show min ch k = ch by omega]
          have hexs : (y.extract 0 ch).size ≤ 100000 := by
            have : (y.extract 0 ch).data.toList.length = (y.extract 0 ch).size := Array.length_toList
            rw [hext, List.length_replicate] at this; omega
          have WR2 := fun W (h : BIF w.heap.size w.heap.size (List.replicate k c) W) (hz : w.heap.size ≤ W.heap.size) => writeF_any w.heap.size w.heap.size (List.replicate k c) (y.extract 0 ch) W h (by rw [List.length_replicate]; omega) hz
          rw [hext, List.replicate_append_replicate] at WR2
          have WR3 := Lib.hid WR2
          rw [hy] at ST1
          have HYS := Lib.hid hys
          clear WR2 hext hexs hy hys hmin
          go_wp2_with (first | (go_at_call 28; (with_reducible refine (ST1.out).mono ?_); rintro e w5 ⟨rfl, h5, hb5⟩) | (go_at_call 26; (with_reducible refine (WR3.out _ h5 (by have := hb5.size; omega)).mono ?_); rintro e w6 ⟨rfl, h6, hb6⟩))
          go_roundw
          case rel => exact ⟨k + ch, by omega, by omega, Lib.hid (.inr h6), Lib.hid (HB.out.trans (hb5.trans hb6))⟩
          case measure => rw [lenOf_eq (.inr h6), List.length_replicate, hlk]; omega
        · have hkl' : ¬ (k : Int) < (n : Int) := by omega
          have hkn' : k = n := by omega
          subst hkn'
          go_upto_region 41 with (first | (go_at_call 27; (with_reducible refine (LN1.out).mono ?_); rintro e w4 ⟨rfl, h4⟩; subst w4))
          go_wp2_with (go_at_call 28; (with_reducible refine (ST1.out).mono ?_); rintro e w5 ⟨rfl, h5, hb5⟩)
          go_ret
          exact ⟨rfl, HB.out.trans hb5⟩
open M1 M2
set_option maxHeartbeats 4000000 in
set_option maxRecDepth 100000 in
theorem rep_one (s : ByteArray) (w : World) : Calls Tryd.prog 11 #[.string s, .int .i64 1] w fun e w' => e = .returned (.string s) ∧ Below w.heap.size w w' := by
  go_enter Tryd.func11, Tryd.ntmps11
  go_wp2
  go_ret
  exact ⟨rfl, Below.refl _ _⟩
theorem hp_sp (l : List UInt8) : Lib.hasPrefix (32 :: l) [32] = true := by unfold Lib.hasPrefix; simp [List.isPrefixOf]
set_option maxHeartbeats 4000000 in
set_option maxRecDepth 100000 in
theorem rep_short (s : ByteArray) (n : Nat) (w : World) (h1 : s.size = 1) (hc : s[0] = 32) (hn : 2 ≤ n) (hn2 : n ≤ 128) :
    Calls Tryd.prog 11 #[.string s, .int .i64 (n : Int)] w fun e w' => ∃ y, e = .returned (.string y) ∧ y.size = n ∧ Below w.heap.size w w' := by
  have hs1 : (s.size : Int) = 1 := by omega
  have hci : (s[0].toNat : Int) = 32 := by rw [hc]; rfl
  have hsl : s.data.toList = [32] := by
    have hl : s.data.toList.length = 1 := by rw [Array.length_toList]; exact h1
    match e : s.data.toList, hl with
    | [d], _ =>
      have : s.data.toList[0]'(by rw [e]; simp) = s[0] := by simp; rfl
      simp only [e, List.getElem_cons_zero] at this
      rw [this, hc]
  have a0 : ((n : Int) == 0) = false := by rw [beq_eq_false_iff_ne]; omega
  have a1 : ((n : Int) == 1) = false := by rw [beq_eq_false_iff_ne]; omega
  have a2 : ¬ (n : Int) < 0 := by omega
  have a3 : ¬ (9223372036854775807 : Int) < (n : Int) := by omega
  have a4 : 0 ≤ (n : Int) := by omega
  have f1 : (n : Int) ≤ 128 := by omega
  have M1 := Lib.hid fun w => mul_any n (by omega) w
  go_enter Tryd.func11, Tryd.ntmps11
  go_upto_region 21 with (first | (go_at_call 24; (with_reducible refine (M1.out _).mono ?_); rintro e w1 ⟨rfl, h1⟩; subst w1) | (go_at_call 22; (with_reducible refine (Tryd.strings_HasPrefix _ _ _).mono ?_); rintro e w2 ⟨rfl, h2⟩; subst w2; rw [hsl]))
  go_wp2
  go_ret
  refine ⟨_, rfl, ?_, Below.refl _ _⟩
  rw [ByteArray.size_extract]
  have : ∀ m : Nat, m = 128 → min n m - 0 = n := fun m h => by omega
  exact this _ rfl
theorem rep_sp (n : Nat) (w : World) (h1 : 1 ≤ n) (hn : n ≤ 70000) :
    Calls Tryd.prog 11 #[.string ⟨#[32]⟩, .int .i64 (n : Int)] w fun e w' => ∃ y, e = .returned (.string y) ∧ y.size = n ∧ Below w.heap.size w w' := by
  by_cases e1 : n = 1
  · subst e1
    exact (rep_one ⟨#[32]⟩ w).mono fun e w' ⟨a, b⟩ => ⟨_, a, rfl, b⟩
  by_cases e2 : n ≤ 128
  · exact rep_short ⟨#[32]⟩ n w rfl rfl (by omega) e2
  · exact (rep_any ⟨#[32]⟩ 32 n w rfl rfl (by omega) hn (.inr (by omega)) (by decide) (by decide) (by decide) (by decide)).mono fun e w' ⟨a, b⟩ => ⟨_, a, by rw [bs_size, List.length_replicate], b⟩
theorem rep_x (n : Nat) (w : World) (h1 : 2 ≤ n) (hn : n ≤ 70000) :
    Calls Tryd.prog 11 #[.string ⟨#[120]⟩, .int .i64 (n : Int)] w fun e w' => e = .returned (.string (bs (List.replicate n 120))) ∧ Below w.heap.size w w' :=
  rep_any ⟨#[120]⟩ 120 n w rfl rfl h1 hn (.inl (by decide)) (by decide) (by decide) (by decide) (by decide)
theorem rep_n (n : Nat) (w : World) (h1 : 2 ≤ n) (hn : n ≤ 70000) :
    Calls Tryd.prog 11 #[.string ⟨#[110]⟩, .int .i64 (n : Int)] w fun e w' => e = .returned (.string (bs (List.replicate n 110))) ∧ Below w.heap.size w w' :=
  rep_any ⟨#[110]⟩ 110 n w rfl rfl h1 hn (.inl (by decide)) (by decide) (by decide) (by decide) (by decide)
theorem scan_big (s : ByteArray) (w : World) (h : 65536 < s.size) :
    Calls Tryd.prog 12 #[.string s] w fun e w' => e = .returned (.tuple #[.slice none 0 0, .int .i64 1, .int .i64 3]) ∧ w' = w := by
  have h' : 65536 < (s.size : Int) := by omega
  go_enter Tryd.func12, Tryd.ntmps12
  go_wp2
  (try simp only [Exit.inBlock, Exit.then])
  refine bodyPost_ret (results_tmp3 rfl _ _ _) rfl ?_
  exact ⟨rfl, rfl⟩
theorem qb_x (n : Nat) : (List.replicate n (120 : UInt8)).flatMap qb = List.replicate n 120 := by
  induction n with
  | zero => rfl
  | succ n ih => rw [List.replicate_succ, List.flatMap_cons, ih]; rfl
/-- A literal of 4096 bytes. -/
theorem lex_x : lexR (34 :: (List.replicate 4096 120 ++ [34])) = ([⟨4, List.replicate 4096 120, 1, 0⟩], 0, 0) := by
  have h := lex_quote (List.replicate 4096 120) (by rw [List.length_replicate]; exact Nat.le_refl _)
  unfold qt at h
  rw [qb_x] at h
  exact h
/-- A text whose first token is refused. -/
theorem lex_no {l : List UInt8} {k E : Nat} (hk : k < l.length) (hs : sk l = (k, 0)) (hE : (tkR l k).E = (E : Int)) (h0 : E ≠ 0) : lexR l = ([], 1, (E : Int)) := by
  unfold lexR scT
  rw [hs]
  show scF (tkR l) l (l.length + 1) k (1 + 0) [] = _
  rw [scF, if_pos hk, if_neg (by rw [hE]; omega), hE]
theorem cnt_x (n : Nat) : cntP (nah (lqL 34)) (List.replicate n 120 ++ [34]) = n := by
  induction n with
  | zero => exact cntP_no (by decide)
  | succ n ih => rw [List.replicate_succ, List.cons_append, cntP_yes (by decide), ih]
theorem lex_long (n : Nat) (h : 4096 < n) : lexR (34 :: (List.replicate n 120 ++ [34])) = ([], 1, 3) := by
  refine lex_no (k := 0) (E := 3) (by simp) (sk_zero (by decide) (by decide)) ?_ (by decide)
  have hg : (34 :: (List.replicate n 120 ++ [34]) : List UInt8).getD 0 0 = 34 := rfl
  unfold tkR
  rw [hg, if_pos (Or.inl rfl)]
  show (litR (34 :: (List.replicate n 120 ++ [34])) 0 34).2.2 = 3
  unfold litR
  have hd : (34 :: (List.replicate n 120 ++ [34]) : List UInt8).drop (0 + 1) = List.replicate n 120 ++ [34] := rfl
  rw [hd, litF_run 34 n _ _ [] _ (by simp) (cnt_x n) (by simp), if_neg (by simp; omega)]
theorem cnt_n (n : Nat) : cntP wrd (List.replicate n 110) = n := by
  have := cntP_all (P := wrd) (l := List.replicate n 110)
  rw [List.length_replicate] at this
  exact this.2 fun c hc => by rw [List.eq_of_mem_replicate hc]; decide
theorem lex_n : ∃ K, lexR (List.replicate 40 110) = ([⟨K, List.replicate 40 110, 1, 0⟩], 0, 0) :=
  ⟨_, lex_word (l := List.replicate 40 110) (by decide) (by decide) (by decide) (by rw [cnt_n, List.length_replicate])⟩
theorem lex_nn : lexR (32 :: List.replicate 41 110) = ([], 1, 3) := by
  refine lex_no (k := 1) (E := 3) (by decide) (by decide) ?_ (by decide)
  have hg : (32 :: List.replicate 41 110 : List UInt8).getD 1 0 = 110 := rfl
  unfold tkR
  rw [hg, if_neg (by decide)]
  unfold tokP
  rw [if_neg (by decide), if_pos (by decide)]
  unfold namR
  have hd : (32 :: List.replicate 41 110 : List UInt8).drop 1 = List.replicate 41 110 := rfl
  rw [hd, cnt_n, if_pos (by decide)]
  rfl
end Go.Proofs.YtbcbddglgfakpaaDoor
