/- Contracts of layer 2: the reference's Base. -/
import Derived.Test.YtmnfebgkpcjjjaaDoorNumT
import Derived.OwnWalk
namespace Go.Proofs.YtmnfebgkpcjjjaaDoor
open Go.RowKit Go.Sort M1 M2
set_option linter.unusedVariables false
theorem infoByte : (Tryd.prog.info? 5).map (fun i => (i.zero, i.size, i.bytes)) = some (some (.int .u8 0), 1, 1) := by kernel_rfl
/-- A row of bytes of the call's own. -/
def OwnB (base : Nat) (w : World) (g cap : Nat) (l : List UInt8) : Prop := w.ownsRow base 5 1 (.slice (some ⟨g, 0, none⟩) l.length cap) l.length (l.map eB)
theorem ownw_lt {base g cap : Nat} {w : World} {l : List UInt8} (h : OwnB base w g cap l) : base ≤ g ∧ g < w.heap.size := World.ownsRow.lt h g rfl
theorem ownw_cell {base g cap : Nat} {w : World} {l : List UInt8} (h : OwnB base w g cap l) (j : Nat) (hj : j < l.length) : w.cell? ⟨g, j, none⟩ = some (.int .u8 (l[j].toNat : Int)) := by
  rw [World.ownsRow.cellAt h j (by omega)]; simp [eB, hj]
theorem ownw_frozen {base g cap : Nat} {w : World} {l : List UInt8} (h : OwnB base w g cap l) (j : Nat) : w.frozen? ⟨g, j, none⟩ = false := World.ownsRow.frozenAt h j
theorem ownw_shape {base : Nat} {w : World} {v : Value} {l : List UInt8} {x : UInt8} (h : w.ownsRow base 5 1 v (l.length + 1) (l.map eB ++ [.int .u8 (x.toNat : Int)])) : ∃ g cap, v = .slice (some ⟨g, 0, none⟩) (l.length + 1) cap ∧ OwnB base w g cap (l ++ [x]) := by
  rcases h.2 with ⟨_, h0⟩ | ⟨g, cap, cur, rfl, hb, hg, h1, h2, h3, h4⟩
  · omega
  · refine ⟨g, cap, rfl, ?_⟩
    unfold OwnB
    simp only [List.length_append, List.length_cons, List.length_nil, List.map_append, List.map_cons, List.map_nil, Nat.zero_add]
    exact h
theorem ownw_kept {base g cap : Nat} {w w' : World} {l : List UInt8} (h : OwnB base w g cap l) (hb : RowKit.Below w.heap.size w w') : OwnB base w' g cap l :=
  World.ownsRow.kept h (row := none) ⟨hb.os, hb.tape, hb.output, hb.size, fun k hk _ => hb.block k hk⟩ (.inr (by simp [Value.ownBlock]))
theorem ownw_kept_row {base g cap : Nat} {w w' : World} {l : List UInt8} {r : Option Nat} (h : OwnB base w g cap l) (hg : w.grownBy w' r) (hr : r ≠ some g) : OwnB base w' g cap l :=
  World.ownsRow.kept h hg (.inr (by simp only [Value.ownBlock]; exact fun e => hr e.symm))
theorem ownw_alloc {base g cap : Nat} {w : World} {l : List UInt8} (h : OwnB base w g cap l) (o : Obj) : OwnB base (w.alloc o) g cap l := World.ownsRow.alloc h o
theorem ownw_empty (w : World) (base : Nat) (hb : base ≤ w.heap.size) : OwnB base (w.alloc (.cells #[] 5)) w.heap.size 0 [] :=
  World.ownsRow_lit w #[] 0 hb (by decide) (by simp)
theorem ownw_string {base g cap : Nat} {w : World} {l : List UInt8} (h : OwnB base w g cap l) : (convert 65 9 (.slice (some ⟨g, 0, none⟩) l.length cap)).run Tryd.prog w = .ok (.string (mkB l)) w :=
  run_convert_bytes_back (P := Tryd.prog) w 65 9 5 ⟨g, 0, none⟩ cap l Tryd.underlying65 Tryd.underlying5 Tryd.underlying9 (fun j hj => World.ownsRow.cells h rfl j _ (by simp [eB, hj]))
theorem below_ownw {B : Nat} {a w w' : World} {g : Nat} (h : RowKit.Below B a w) (hg : w.grownBy w' (some g)) (hB : B ≤ w.heap.size) (hgB : B ≤ g) : RowKit.Below B a w' := h.grown hg hB (fun k hk => by cases hk; exact hgB)
def lenOf : Value → Nat
  | .slice _ n _ => n
  | _ => 0
def rem (b u : Nat) : List UInt8 := if u = 0 then [] else bd b u
theorem bd_rem {b u : Nat} (hb : 2 ≤ b) (hu : u < 18446744073709551616) : bd b u = rem b (u / b) ++ [dc (u % b)] := by
  unfold rem
  by_cases h : u < b
  · rw [if_pos (Nat.div_eq_of_lt h), Nat.mod_eq_of_lt h, bd_small h]; rfl
  · have : u / b ≠ 0 := fun h0 => by rcases Nat.div_eq_zero_iff.1 h0 with h1 | h1 <;> omega
    rw [if_neg this, bd_big hb hu h]
/-- what the digits so far are -/
def Dig (b n u : Nat) (l : List UInt8) : Prop := (l = [] ∧ u = n) ∨ (0 < l.length ∧ bd b n = rem b u ++ l.reverse)
theorem dig_step {b n u : Nat} {l : List UInt8} (hb : 2 ≤ b) (hn : n < 18446744073709551616) (hu : u < 18446744073709551616) (h : Dig b n u l) (hgo : 0 < u ∨ l = []) : Dig b n (u / b) (l ++ [dc (u % b)]) := by
  right
  refine ⟨by simp, ?_⟩
  rcases h with ⟨rfl, rfl⟩ | ⟨hl, h⟩
  · rw [bd_rem hb hn]; simp
  · have hu0 : u ≠ 0 := by
      rcases hgo with h | h
      · omega
      · rw [h] at hl; simp at hl
    rw [h]
    have : rem b u = bd b u := if_neg hu0
    rw [this, bd_rem hb hu]; simp
theorem dig_end {b n : Nat} {l : List UInt8} (h : Dig b n 0 l) (hl : 0 < l.length) : bd b n = l.reverse := by
  rcases h with ⟨h, _⟩ | ⟨_, h⟩
  · rw [h] at hl; simp at hl
  · rw [h]; rfl
theorem dig_len {b n u : Nat} {l : List UInt8} (hb : 2 ≤ b) (hn : n < 18446744073709551616) (h : Dig b n u l) : l.length ≤ 64 := by
  rcases h with ⟨h, _⟩ | ⟨_, h⟩
  · rw [h]; simp
  · have h1 := (bd_len hb hn).2
    rw [h] at h1; simp at h1; omega

set_option maxHeartbeats 4000000 in
set_option maxRecDepth 100000 in
theorem rbase_pos (n b : Nat) (w : World) (h1 : n ≤ 9223372036854775807) (hb : 2 ≤ b) (hb2 : b ≤ 36) :
    Calls Tryd.prog 53 #[.int .i64 n, .int .i64 b] w fun e w' => e = .returned (.tuple #[.string (mkB (baseL (n : Int) b)), .int .i64 0]) ∧ RowKit.Below w.heap.size w w' := by
  obtain ⟨i0, hi, hz0, hz1, hz2⟩ := info_parts infoByte
  have hbl : Hid (baseL (n : Int) b = bd b n) := Lib.hid (by unfold baseL; rw [if_neg (by omega)]; simp)
  go_enter Tryd.func53, Tryd.ntmps53
  go_wp2

  go_loopw [6, 8] (fun vu vl wr => ∃ (u g cap : Nat) (l : List UInt8), u ≤ 9223372036854775808 ∧ vu = .int .u64 u ∧ vl = .slice (some ⟨g, 0, none⟩) l.length cap ∧ Hid (Dig b n u l) ∧ Hid (OwnB w.heap.size wr g cap l) ∧ Hid (RowKit.Below w.heap.size w wr)) (fun vu vl _ => 2 * (intOf vu).toNat + (1 - lenOf vl))
  case atStart => exact ⟨n, w.heap.size, 0, [], by omega, rfl, rfl, Lib.hid (.inl ⟨rfl, rfl⟩), Lib.hid (ownw_empty w _ (Nat.le_refl _)), Lib.hid ((RowKit.Below.refl _ _).alloc (Nat.le_refl _) _)⟩
  case round =>
    obtain ⟨u, g, cap, l, hu, rfl, rfl, HD, HO, HBE⟩ := hrel
    rename World => W0
    have hsz := HBE.out.size
    have hl64 := dig_len hb (by omega) HD.out
    by_cases hgo : 0 < u ∨ l = []
    · have hm0 : 0 ≤ (u : Int) % (b : Int) := Int.emod_nonneg _ (by omega)
      have hm1 : (u : Int) % (b : Int) < 36 := by have := Int.emod_lt_of_pos (u : Int) (show 0 < (b : Int) by omega); omega
      have hd0 : 0 ≤ (u : Int) / (b : Int) := Int.ediv_nonneg (by omega) (by omega)
      have hd1 : (u : Int) / (b : Int) ≤ 9223372036854775808 := by have := Int.ediv_le_self (b : Int) (show 0 ≤ (u : Int) by omega); omega
      have hmn : u % b < 36 := by have := Nat.mod_lt u (show 0 < b by omega); omega
      have HN := Lib.hid (dig_step hb (by omega) (by omega) HD.out hgo)
      have hHD : Hid ((u : Int) / (b : Int) = ((u / b : Nat) : Int)) := Lib.hid (by push_cast; rfl)
      have hdl : u / b ≤ u := Nat.div_le_self _ _
      have hdm : Hid (2 * (u / b) + (1 - (l.length + 1)) < 2 * u + (1 - l.length)) := Lib.hid (by
        rcases hgo with h | h
        · have : u / b < u := Nat.div_lt_self h (by omega)
          omega
        · rw [h]; simp; omega)
      have hown := HO.out
      unfold OwnB at hown
      have HOW := Lib.hid hown
      clear hown
      have hx36 := Lib.hid (dig36 (u % b) hmn)
      by_cases hu0 : 0 < u
      · clear hgo
        have hub : 0 < (u : Int) := by omega
        go_wp2_with (at_builtin; refine wpList_append_own _ rfl _ _ 65 rfl w.heap.size 5 i0 (.int .u8 0) 1 1 Tryd.underlying65 hi hz0 hz1 hz2 rfl (by decide) _ _ _ rfl (HOW.out.alloc _) ⟨W0.heap.size, 0, none⟩ 1 1 [.int .u8 ((dc (u % b)).toNat : Int)] rfl rfl (by intro j u' hj; match j, hj with | 0, hj => simp at hj; subst hj; simp [Addr.add]; (try rw [dig36 _ hmn])) (by intro u' hu'; simp at hu'; subst hu'; rfl) (by unfold maxLen; omega) (by omega) (by simp; omega) ?_)
        intro v1 W2 hown1 hgrow _
        obtain ⟨g1, cap1, hv1, hO1⟩ := ownw_shape hown1
        rw [hv1]
        have HB2 : Hid (RowKit.Below w.heap.size w W2) := Lib.hid (below_ownw (HBE.out.alloc (by omega) _) hgrow (by simp; omega) (ownw_lt HO.out).1)
        have HO2 := Lib.hid hO1
        have hlen : l.length + 1 = (l ++ [dc (u % b)]).length := by simp
        rw [hlen]
        have HLE := Lib.hid hlen
        clear hlen hown1 hgrow hO1 hv1
        go_wp2
        go_roundw
        case rel => exact ⟨u / b, g1, cap1, l ++ [dc (u % b)], by omega, by rw [hHD.out], rfl, HN, HO2, HB2⟩
        case measure => have := hdm.out; rw [hHD.out]; simp only [intOf, lenOf, Int.toNat_natCast]; rw [← HLE.out]; omega
      · have hl0 : l = [] := by rcases hgo with h | h; exact absurd h hu0; exact h
        have hlb : ((l.length : Int) == 0) = true := by rw [beq_iff_eq, hl0]; rfl
        have hub : (u : Int) ≤ 0 := by omega
        clear hgo hl0
        go_wp2_with (at_builtin; refine wpList_append_own _ rfl _ _ 65 rfl w.heap.size 5 i0 (.int .u8 0) 1 1 Tryd.underlying65 hi hz0 hz1 hz2 rfl (by decide) _ _ _ rfl (HOW.out.alloc _) ⟨W0.heap.size, 0, none⟩ 1 1 [.int .u8 ((dc (u % b)).toNat : Int)] rfl rfl (by intro j u' hj; match j, hj with | 0, hj => simp at hj; subst hj; simp [Addr.add]; (try rw [dig36 _ hmn])) (by intro u' hu'; simp at hu'; subst hu'; rfl) (by unfold maxLen; omega) (by omega) (by simp; omega) ?_)
        intro v1 W2 hown1 hgrow _
        obtain ⟨g1, cap1, hv1, hO1⟩ := ownw_shape hown1
        rw [hv1]
        have HB2 : Hid (RowKit.Below w.heap.size w W2) := Lib.hid (below_ownw (HBE.out.alloc (by omega) _) hgrow (by simp; omega) (ownw_lt HO.out).1)
        have HO2 := Lib.hid hO1
        have hlen : l.length + 1 = (l ++ [dc (u % b)]).length := by simp
        rw [hlen]
        have HLE := Lib.hid hlen
        clear hlen hown1 hgrow hO1 hv1
        go_wp2
        go_roundw
        case rel => exact ⟨u / b, g1, cap1, l ++ [dc (u % b)], by omega, by rw [hHD.out], rfl, HN, HO2, HB2⟩
        case measure => have := hdm.out; rw [hHD.out]; simp only [intOf, lenOf, Int.toNat_natCast]; rw [← HLE.out]; omega
    · have hu0 : u = 0 := by omega
      have hl0 : l ≠ [] := fun h => hgo (.inr h)
      have hub : (u : Int) ≤ 0 := by omega
      have HU0 := Lib.hid hu0
      clear hu0
      have hlp : 0 < l.length := List.length_pos_iff.2 hl0
      have hlb : ((l.length : Int) == 0) = false := by rw [beq_eq_false_iff_ne]; omega
      have HE := Lib.hid (dig_end (by have := HD.out; rw [HU0.out] at this; exact this) hlp)
      clear hgo hl0 HD
      go_wp2
      have HGL := Lib.hid (ownw_lt HO.out).2
      obtain ⟨gL, rfl⟩ : ∃ gL, gL = g := ⟨_, rfl⟩
      obtain ⟨capL, rfl⟩ : ∃ capL, capL = cap := ⟨_, rfl⟩
      go_loopw [9, 10] (fun vo vi wr => ∃ (i : Int) (g2 cap2 : Nat) (acc : List UInt8), -1 ≤ i ∧ i < (l.length : Int) ∧ vi = .int .i64 i ∧ vo = .slice (some ⟨g2, 0, none⟩) acc.length cap2 ∧ acc.length ≤ 100 ∧ Hid (acc = (l.drop (i + 1).toNat).reverse) ∧ Hid (OwnB W0.heap.size wr g2 cap2 acc) ∧ Hid (OwnB w.heap.size wr gL capL l) ∧ Hid (RowKit.Below w.heap.size w wr) ∧ Hid (W0.heap.size ≤ wr.heap.size)) (fun _ vi _ => (intOf vi + 1).toNat)
      case atStart => exact ⟨(l.length : Int) - 1, W0.heap.size, 0, [], by omega, by omega, rfl, rfl, by simp, Lib.hid (by
          have : (((l.length : Int) - 1) + 1).toNat = l.length := by simp <;> omega
          rw [this, List.drop_length]; rfl), Lib.hid (ownw_empty W0 _ (Nat.le_refl _)), Lib.hid (ownw_alloc HO.out _), Lib.hid (HBE.out.alloc (by have := HBE.out.size; omega) _), Lib.hid (by simp)⟩
      case round =>
        obtain ⟨i, g2, cap2, acc, hi1, hi2, rfl, rfl, hacc, HAC, HA, HLo, HBl, HSZ⟩ := hrel
        rename World => V
        by_cases hi0 : 0 ≤ i
        · obtain ⟨j, rfl⟩ := Int.eq_ofNat_of_zero_le hi0
          have hjl : j < l.length := by first | omega | (simp; omega)
          have hcj := ownw_cell HLo.out j hjl
          have HJ : Hid (acc ++ [l[j]] = (l.drop ((((j : Nat) : Int) - 1) + 1).toNat).reverse) := Lib.hid (by
            rw [HAC.out, show (((j : Nat) : Int) + 1).toNat = j + 1 by omega, show ((((j : Nat) : Int) - 1) + 1).toNat = j by omega, List.drop_eq_getElem_cons hjl, List.reverse_cons])
          obtain ⟨xj, hxj⟩ : ∃ x, l[j] = x := ⟨_, rfl⟩
          rw [hxj] at hcj HJ
          clear hxj
          have hbx := byte_bd xj
          have hown := HA.out
          unfold OwnB at hown
          have HOW := Lib.hid hown
          have hy1 := HSZ.out
          have hy2 := HBl.out.size
          have hy3 := HBE.out.size
          clear hown
          go_wp2_with (at_builtin; refine wpList_append_own _ rfl _ _ 65 rfl W0.heap.size 5 i0 (.int .u8 0) 1 1 Tryd.underlying65 hi hz0 hz1 hz2 rfl (by decide) _ _ _ rfl (HOW.out.alloc _) ⟨V.heap.size, 0, none⟩ 1 1 [.int .u8 (xj.toNat : Int)] rfl rfl (by intro j u' hj; match j, hj with | 0, hj => simp at hj; subst hj; simp [Addr.add]; (try rw [dig36 _ hmn])) (by intro u' hu'; simp at hu'; subst hu'; rfl) (by unfold maxLen; omega) (by omega) (by simp; omega) ?_)
          intro v1 V2 hown1 hgrow _
          obtain ⟨g1, cap1, hv1, hO1⟩ := ownw_shape hown1
          rw [hv1]
          have hg2 := ownw_lt HA.out
          have hgL := ownw_lt HLo.out
          have HB2 : Hid (RowKit.Below w.heap.size w V2) := Lib.hid (below_ownw (HBl.out.alloc (by omega) _) hgrow (by simp; omega) (show w.heap.size ≤ g2 by omega))
          have HSZ2 : Hid (W0.heap.size ≤ V2.heap.size) := Lib.hid (by have := hgrow.size; simp at this; omega)
          have HLo2 := Lib.hid (ownw_kept_row (ownw_alloc HLo.out (.cells #[.int .u8 (xj.toNat : Int)] 5)) hgrow (by simp only [Value.ownBlock]; intro e; cases e; have := HGL.out; omega))
          have HO2 := Lib.hid hO1
          have hlen : acc.length + 1 = (acc ++ [xj]).length := by simp
          have ha2 : (acc ++ [xj]).length ≤ 100 := by have h := congrArg List.length HAC.out; rw [List.length_reverse, List.length_drop] at h; have hLL : l.length ≤ 65 := (by first | omega | (simp; omega)); rw [List.length_append]; simp only [List.length_cons, List.length_nil]; omega
          rw [hlen]
          clear hlen hown1 hgrow hO1 hv1 hg2 hgL
          go_wp2
          go_roundw
          case rel => exact ⟨(j : Int) - 1, g1, cap1, acc ++ [xj], by omega, by omega, rfl, rfl, ha2, HJ, HO2, HLo2, HB2, HSZ2⟩
          case measure => simp [intOf] <;> omega
        · have hcv := ownw_string HA.out
          have HR : Hid (Ending.returned (.tuple #[.string (mkB acc), .int .i64 0]) = .returned (.tuple #[.string (mkB (baseL (n : Int) b)), .int .i64 0])) := Lib.hid (by
            rw [hbl.out, HE.out, HAC.out, show (i + 1).toNat = 0 by omega]; simp)
          go_wp2
          go_ret2
          exact ⟨HR.out, HBl.out⟩

set_option maxHeartbeats 4000000 in
set_option maxRecDepth 100000 in
theorem rbase_neg (n b : Nat) (w : World) (h0 : 1 ≤ n) (h1 : n ≤ 9223372036854775808) (hb : 2 ≤ b) (hb2 : b ≤ 36) :
    Calls Tryd.prog 53 #[.int .i64 (-(n : Int)), .int .i64 b] w fun e w' => e = .returned (.tuple #[.string (mkB (baseL (-(n : Int)) b)), .int .i64 0]) ∧ RowKit.Below w.heap.size w w' := by
  obtain ⟨i0, hi, hz0, hz1, hz2⟩ := info_parts infoByte
  have hbl : Hid (baseL (-(n : Int)) b = 45 :: bd b n) := Lib.hid (by unfold baseL; rw [if_pos (by omega)]; simp)
  have hn0 : 0 < n := h0
  have hw1 : IntKind.u64.wrap (-IntKind.u64.wrap (-(n : Int))) = (n : Int) := by
    have h2 : IntKind.u64.wrap (-(n : Int)) = 18446744073709551616 - n := by simp only [IntKind.wrap]; simp [IntKind.signed, IntKind.bits]; omega
    rw [h2]; simp only [IntKind.wrap]; simp [IntKind.signed, IntKind.bits]; omega
  have HW1 := Lib.hid hw1
  clear hw1
  go_enter Tryd.func53, Tryd.ntmps53
  go_wp2
  rw [HW1.out]
  go_loopw [6, 8] (fun vu vl wr => ∃ (u g cap : Nat) (l : List UInt8), u ≤ 9223372036854775808 ∧ vu = .int .u64 u ∧ vl = .slice (some ⟨g, 0, none⟩) l.length cap ∧ Hid (Dig b n u l) ∧ Hid (OwnB w.heap.size wr g cap l) ∧ Hid (RowKit.Below w.heap.size w wr)) (fun vu vl _ => 2 * (intOf vu).toNat + (1 - lenOf vl))
  case atStart => exact ⟨n, w.heap.size, 0, [], by omega, rfl, rfl, Lib.hid (.inl ⟨rfl, rfl⟩), Lib.hid (ownw_empty w _ (Nat.le_refl _)), Lib.hid ((RowKit.Below.refl _ _).alloc (Nat.le_refl _) _)⟩
  case round =>
    obtain ⟨u, g, cap, l, hu, rfl, rfl, HD, HO, HBE⟩ := hrel
    rename World => W0
    have hsz := HBE.out.size
    have hl64 := dig_len hb (by omega) HD.out
    by_cases hgo : 0 < u ∨ l = []
    · have hm0 : 0 ≤ (u : Int) % (b : Int) := Int.emod_nonneg _ (by omega)
      have hm1 : (u : Int) % (b : Int) < 36 := by have := Int.emod_lt_of_pos (u : Int) (show 0 < (b : Int) by omega); omega
      have hd0 : 0 ≤ (u : Int) / (b : Int) := Int.ediv_nonneg (by omega) (by omega)
      have hd1 : (u : Int) / (b : Int) ≤ 9223372036854775808 := by have := Int.ediv_le_self (b : Int) (show 0 ≤ (u : Int) by omega); omega
      have hmn : u % b < 36 := by have := Nat.mod_lt u (show 0 < b by omega); omega
      have HN := Lib.hid (dig_step hb (by omega) (by omega) HD.out hgo)
      have hHD : Hid ((u : Int) / (b : Int) = ((u / b : Nat) : Int)) := Lib.hid (by push_cast; rfl)
      have hdl : u / b ≤ u := Nat.div_le_self _ _
      have hdm : Hid (2 * (u / b) + (1 - (l.length + 1)) < 2 * u + (1 - l.length)) := Lib.hid (by
        rcases hgo with h | h
        · have : u / b < u := Nat.div_lt_self h (by omega)
          omega
        · rw [h]; simp; omega)
      have hown := HO.out
      unfold OwnB at hown
      have HOW := Lib.hid hown
      clear hown
      have hx36 := Lib.hid (dig36 (u % b) hmn)
      by_cases hu0 : 0 < u
      · clear hgo
        have hub : 0 < (u : Int) := by omega
        go_wp2_with (at_builtin; refine wpList_append_own _ rfl _ _ 65 rfl w.heap.size 5 i0 (.int .u8 0) 1 1 Tryd.underlying65 hi hz0 hz1 hz2 rfl (by decide) _ _ _ rfl (HOW.out.alloc _) ⟨W0.heap.size, 0, none⟩ 1 1 [.int .u8 ((dc (u % b)).toNat : Int)] rfl rfl (by intro j u' hj; match j, hj with | 0, hj => simp at hj; subst hj; simp [Addr.add]; (try rw [dig36 _ hmn])) (by intro u' hu'; simp at hu'; subst hu'; rfl) (by unfold maxLen; omega) (by omega) (by simp; omega) ?_)
        intro v1 W2 hown1 hgrow _
        obtain ⟨g1, cap1, hv1, hO1⟩ := ownw_shape hown1
        rw [hv1]
        have HB2 : Hid (RowKit.Below w.heap.size w W2) := Lib.hid (below_ownw (HBE.out.alloc (by omega) _) hgrow (by simp; omega) (ownw_lt HO.out).1)
        have HO2 := Lib.hid hO1
        have hlen : l.length + 1 = (l ++ [dc (u % b)]).length := by simp
        rw [hlen]
        have HLE := Lib.hid hlen
        clear hlen hown1 hgrow hO1 hv1
        go_wp2
        go_roundw
        case rel => exact ⟨u / b, g1, cap1, l ++ [dc (u % b)], by omega, by rw [hHD.out], rfl, HN, HO2, HB2⟩
        case measure => have := hdm.out; rw [hHD.out]; simp only [intOf, lenOf, Int.toNat_natCast]; rw [← HLE.out]; omega
      · have hl0 : l = [] := by rcases hgo with h | h; exact absurd h hu0; exact h
        have hlb : ((l.length : Int) == 0) = true := by rw [beq_iff_eq, hl0]; rfl
        have hub : (u : Int) ≤ 0 := by omega
        clear hgo hl0
        go_wp2_with (at_builtin; refine wpList_append_own _ rfl _ _ 65 rfl w.heap.size 5 i0 (.int .u8 0) 1 1 Tryd.underlying65 hi hz0 hz1 hz2 rfl (by decide) _ _ _ rfl (HOW.out.alloc _) ⟨W0.heap.size, 0, none⟩ 1 1 [.int .u8 ((dc (u % b)).toNat : Int)] rfl rfl (by intro j u' hj; match j, hj with | 0, hj => simp at hj; subst hj; simp [Addr.add]; (try rw [dig36 _ hmn])) (by intro u' hu'; simp at hu'; subst hu'; rfl) (by unfold maxLen; omega) (by omega) (by simp; omega) ?_)
        intro v1 W2 hown1 hgrow _
        obtain ⟨g1, cap1, hv1, hO1⟩ := ownw_shape hown1
        rw [hv1]
        have HB2 : Hid (RowKit.Below w.heap.size w W2) := Lib.hid (below_ownw (HBE.out.alloc (by omega) _) hgrow (by simp; omega) (ownw_lt HO.out).1)
        have HO2 := Lib.hid hO1
        have hlen : l.length + 1 = (l ++ [dc (u % b)]).length := by simp
        rw [hlen]
        have HLE := Lib.hid hlen
        clear hlen hown1 hgrow hO1 hv1
        go_wp2
        go_roundw
        case rel => exact ⟨u / b, g1, cap1, l ++ [dc (u % b)], by omega, by rw [hHD.out], rfl, HN, HO2, HB2⟩
        case measure => have := hdm.out; rw [hHD.out]; simp only [intOf, lenOf, Int.toNat_natCast]; rw [← HLE.out]; omega
    · have hu0 : u = 0 := by omega
      have hl0 : l ≠ [] := fun h => hgo (.inr h)
      have hub : (u : Int) ≤ 0 := by omega
      have HU0 := Lib.hid hu0
      clear hu0
      have hlp : 0 < l.length := List.length_pos_iff.2 hl0
      have hlb : ((l.length : Int) == 0) = false := by rw [beq_eq_false_iff_ne]; omega
      have HE := Lib.hid (dig_end (by have := HD.out; rw [HU0.out] at this; exact this) hlp)
      clear hgo hl0 HD
      have hown := HO.out
      unfold OwnB at hown
      have HOW := Lib.hid hown
      clear hown
      go_wp2_with (at_builtin; refine wpList_append_own _ rfl _ _ 65 rfl w.heap.size 5 i0 (.int .u8 0) 1 1 Tryd.underlying65 hi hz0 hz1 hz2 rfl (by decide) _ _ _ rfl (HOW.out.alloc _) ⟨W0.heap.size, 0, none⟩ 1 1 [.int .u8 ((45 : UInt8).toNat : Int)] rfl rfl (by intro j u' hj; match j, hj with | 0, hj => simp at hj; subst hj; simp [Addr.add]; (try rw [dig36 _ hmn])) (by intro u' hu'; simp at hu'; subst hu'; rfl) (by unfold maxLen; omega) (by omega) (by simp; omega) ?_)
      intro v1 W2 hown1 hgrow _
      obtain ⟨gL, capL, hv1, hO1⟩ := ownw_shape (x := 45) hown1
      rw [hv1]
      have HB2 : Hid (RowKit.Below w.heap.size w W2) := Lib.hid (below_ownw (HBE.out.alloc (by omega) _) hgrow (by simp; omega) (ownw_lt HO.out).1)
      have HO2 := Lib.hid hO1
      have HGL := Lib.hid (ownw_lt hO1).2
      clear hown1 hgrow hO1 hv1
      go_wp2
      go_loopw [9, 10] (fun vo vi wr => ∃ (i : Int) (g2 cap2 : Nat) (acc : List UInt8), -1 ≤ i ∧ i < ((l.length + 1 : Nat) : Int) ∧ vi = .int .i64 i ∧ vo = .slice (some ⟨g2, 0, none⟩) acc.length cap2 ∧ acc.length ≤ 100 ∧ Hid (acc = ((l ++ [45]).drop (i + 1).toNat).reverse) ∧ Hid (OwnB W2.heap.size wr g2 cap2 acc) ∧ Hid (OwnB w.heap.size wr gL capL (l ++ [45])) ∧ Hid (RowKit.Below w.heap.size w wr) ∧ Hid (W2.heap.size ≤ wr.heap.size)) (fun _ vi _ => (intOf vi + 1).toNat)
      case atStart => exact ⟨(l.length : Int), W2.heap.size, 0, [], by omega, by omega, rfl, rfl, by simp, Lib.hid (by
          have : (((l.length : Int)) + 1).toNat = (l ++ [45]).length := by simp <;> omega
          rw [this, List.drop_length]; rfl), Lib.hid (ownw_empty W2 _ (Nat.le_refl _)), Lib.hid (ownw_alloc HO2.out _), Lib.hid (HB2.out.alloc (by have := HB2.out.size; omega) _), Lib.hid (by simp)⟩
      case round =>
        obtain ⟨i, g2, cap2, acc, hi1, hi2, rfl, rfl, hacc, HAC, HA, HLo, HBl, HSZ⟩ := hrel
        rename World => V
        by_cases hi0 : 0 ≤ i
        · obtain ⟨j, rfl⟩ := Int.eq_ofNat_of_zero_le hi0
          have hjl : j < (l ++ [45]).length := by first | omega | (simp; omega)
          have hcj := ownw_cell HLo.out j hjl
          have HJ : Hid (acc ++ [(l ++ [45])[j]] = ((l ++ [45]).drop ((((j : Nat) : Int) - 1) + 1).toNat).reverse) := Lib.hid (by
            rw [HAC.out, show (((j : Nat) : Int) + 1).toNat = j + 1 by omega, show ((((j : Nat) : Int) - 1) + 1).toNat = j by omega, List.drop_eq_getElem_cons hjl, List.reverse_cons])
          obtain ⟨xj, hxj⟩ : ∃ x, (l ++ [45])[j] = x := ⟨_, rfl⟩
          rw [hxj] at hcj HJ
          clear hxj
          have hbx := byte_bd xj
          have hown := HA.out
          unfold OwnB at hown
          have HOW := Lib.hid hown
          have hy1 := HSZ.out
          have hy2 := HBl.out.size
          have hy3 := HB2.out.size
          clear hown
          go_wp2_with (at_builtin; refine wpList_append_own _ rfl _ _ 65 rfl W2.heap.size 5 i0 (.int .u8 0) 1 1 Tryd.underlying65 hi hz0 hz1 hz2 rfl (by decide) _ _ _ rfl (HOW.out.alloc _) ⟨V.heap.size, 0, none⟩ 1 1 [.int .u8 (xj.toNat : Int)] rfl rfl (by intro j u' hj; match j, hj with | 0, hj => simp at hj; subst hj; simp [Addr.add]; (try rw [dig36 _ hmn])) (by intro u' hu'; simp at hu'; subst hu'; rfl) (by unfold maxLen; omega) (by omega) (by simp; omega) ?_)
          intro v1 V2 hown1 hgrow _
          obtain ⟨g1, cap1, hv1, hO1⟩ := ownw_shape hown1
          rw [hv1]
          have hg2 := ownw_lt HA.out
          have hgL := ownw_lt HLo.out
          have HB2 : Hid (RowKit.Below w.heap.size w V2) := Lib.hid (below_ownw (HBl.out.alloc (by omega) _) hgrow (by simp; omega) (show w.heap.size ≤ g2 by omega))
          have HSZ2 : Hid (W2.heap.size ≤ V2.heap.size) := Lib.hid (by have := hgrow.size; simp at this; omega)
          have HLo2 := Lib.hid (ownw_kept_row (ownw_alloc HLo.out (.cells #[.int .u8 (xj.toNat : Int)] 5)) hgrow (by simp only [Value.ownBlock]; intro e; cases e; have := HGL.out; omega))
          have HO2 := Lib.hid hO1
          have hlen : acc.length + 1 = (acc ++ [xj]).length := by simp
          have ha2 : (acc ++ [xj]).length ≤ 100 := by have h := congrArg List.length HAC.out; rw [List.length_reverse, List.length_drop] at h; have hLL : (l ++ [45]).length ≤ 65 := (by first | omega | (simp; omega)); rw [List.length_append]; simp only [List.length_cons, List.length_nil]; omega
          rw [hlen]
          clear hlen hown1 hgrow hO1 hv1 hg2 hgL
          go_wp2
          go_roundw
          case rel => exact ⟨(j : Int) - 1, g1, cap1, acc ++ [xj], by omega, by omega, rfl, rfl, ha2, HJ, HO2, HLo2, HB2, HSZ2⟩
          case measure => simp [intOf] <;> omega
        · have hcv := ownw_string HA.out
          have HR : Hid (Ending.returned (.tuple #[.string (mkB acc), .int .i64 0]) = .returned (.tuple #[.string (mkB (baseL (-(n : Int)) b)), .int .i64 0])) := Lib.hid (by
            rw [hbl.out, HE.out, HAC.out, show (i + 1).toNat = 0 by omega]; simp)
          go_wp2
          go_ret2
          exact ⟨HR.out, HBl.out⟩

theorem rbase_out (n b : Int) (w : World) (h : b < 2 ∨ 36 < b) :
    Calls Tryd.prog 53 #[.int .i64 n, .int .i64 b] w fun e w' => e = .returned (.tuple #[.string (mkB []), .int .i64 2]) ∧ RowKit.Below w.heap.size w w' := by
  by_cases h1 : b < 2
  · go_enter Tryd.func53, Tryd.ntmps53
    go_wp2
    go_ret2
    exact ⟨rfl, RowKit.Below.refl _ _⟩
  · have h2 : 36 < b := by omega
    go_enter Tryd.func53, Tryd.ntmps53
    go_wp2
    go_ret2
    exact ⟨rfl, RowKit.Below.refl _ _⟩
theorem rbase_any (n b : Int) (w : World) (h0 : -9223372036854775808 ≤ n) (h1 : n ≤ 9223372036854775807) :
    Calls Tryd.prog 53 #[.int .i64 n, .int .i64 b] w fun e w' => e = .returned (.tuple #[.string (mkB (baseT n b)), .int .i64 (baseE b)]) ∧ RowKit.Below w.heap.size w w' := by
  by_cases hb : 2 ≤ b ∧ b ≤ 36
  · rw [show baseT n b = baseL n b.toNat from if_pos hb, show baseE b = 0 from if_pos hb]
    obtain ⟨c, rfl⟩ := Int.eq_ofNat_of_zero_le (show 0 ≤ b by omega)
    rw [Int.toNat_natCast]
    by_cases hn : 0 ≤ n
    · obtain ⟨m, rfl⟩ := Int.eq_ofNat_of_zero_le hn
      exact rbase_pos m c w (by omega) (by omega) (by omega)
    · obtain ⟨m, hm⟩ : ∃ m : Nat, n = -(m : Int) := ⟨n.natAbs, by omega⟩
      subst hm
      exact rbase_neg m c w (by omega) (by omega) (by omega) (by omega)
  · rw [show baseT n b = [] from if_neg hb, show baseE b = 2 from if_neg hb]
    exact rbase_out n b w (by omega)
theorem decimal_any (n : Int) (w : World) (h0 : -9223372036854775808 ≤ n) (h1 : n ≤ 9223372036854775807) :
    Calls Tryd.prog 41 #[.int .i64 n] w fun e w' => e = .returned (.string (mkB (Lib.itoa n))) ∧ RowKit.Below w.heap.size w w' := by
  have B1 : Hid (∀ w, Calls Tryd.prog 53 #[.int .i64 n, .int .i64 10] w fun e w' => e = .returned (.tuple #[.string (mkB (Lib.itoa n)), .int .i64 0]) ∧ RowKit.Below w.heap.size w w') := Lib.hid fun w => (by
    have := rbase_any n 10 w h0 h1
    rw [show baseT n 10 = Lib.itoa n from base_ten n (by omega), show baseE 10 = 0 from rfl] at this
    exact this)
  go_enter Tryd.func41, Tryd.ntmps41
  go_wp2_with (go_at_call 53; (with_reducible refine (B1.out _).mono ?_); rintro e w1 ⟨rfl, hb1⟩; obtain ⟨hc1, hf1⟩ := bcell hb1; have hz := hb1.size; (try simp at hz); (try (have z1_0 : w.heap.size < w1.heap.size := (by omega))); clear hz; (try (have k1a : w1.cell? ⟨w.heap.size, 0, none⟩ = some (.int .i64 0) := by go_simp)); (try (have k1b : w1.cell? ⟨w.heap.size, 1, none⟩ = some (.int .i64 0) := by go_simp)))
  go_ret
  exact ⟨rfl, hb1⟩
end Go.Proofs.YtmnfebgkpcjjjaaDoor
