/- After an insertion the removed slots are at most the number of keys plus 7; they grow by one with each removal, and by nothing else. No condition. -/
import Derived.Test.YtcbbfjcgmmbcpaaOdrQ
import Derived.Deep.DeepCutAuto
import Derived.Deep.CutBlock
import Derived.BigQuiet
import Derived.RegionTactic
namespace Go.Proofs.Ytcbbfjcgmmbcpaa.orderedDropsLaw
open Go.ChangeShapes Go.WideShapes Go.ChangeAt Go.RowKit Go.Joins Go.Deep M1
set_option linter.unusedVariables false
theorem info_op : (Try.prog.info? 33).map (fun i => (i.zero, i.size, i.bytes)) = some (some (.agg #[.int .i64 0, .int .i64 0, .int .i64 0, .int .i64 0, .string ⟨#[]⟩, .int .i64 0, .int .i64 0, .int .i64 0, .int .i64 0, .string ⟨#[]⟩, .int .i64 0]), 11, 104) := by kernel_rfl
theorem fd_val (k p q : Int) (s : ByteArray) (r : Int) (W : World) : (Instr.field 31 (.agg #[.int .i64 k, .int .i64 p, .int .i64 q, .string s, .int .i64 r]) 0).run Try.prog W = .ok (.int .i64 k) W := by kernel_rfl
theorem vC_at (x : V5) : (.agg #[.int .i64 x.k, .int .i64 x.p, .int .i64 x.q, .string x.s, .int .i64 x.r] : Value) = .agg (vC x).toArray := rfl
set_option maxHeartbeats 16000000 in
set_option maxRecDepth 100000 in
theorem walk (p : Option Addr) (cap : Nat) (l : List OpA) (w : World) (hlm : l.length ≤ maxLen) (hp : 0 < l.length → ∃ g o, p = some ⟨g, o, none⟩ ∧ g < w.heap.size ∧ ∀ (j m : Nat) (hj : j < l.length), m < 11 → w.cell? ⟨g, o + j * 11 + m, none⟩ = (opC l[j])[m]?) :
    Calls Try.prog 7 #[.slice p l.length cap] w fun e w' => e = .returned (.bool true) ∧ Below w.heap.size w w' := by
  have HP := Lib.hid hp
  obtain ⟨i0, hi0, jz0, jz1, jz2⟩ := info_parts info_op
  have FD := fd_val
  have QN := Lib.hid (new_R w.heap.size w (Nat.le_refl _))
  clear hp
  go_enter Try.func7, Try.ntmps7
  go_wp2_with (go_at_call 10; (with_reducible refine (QN.out).mono ?_); rintro e w1 ⟨b, rfl, ho, hb1, hbel⟩)
  have HO0 := Lib.hid ho
  have HB0 := Lib.hid hbel
  clear ho hb1 hbel QN
  go_loopw [4] (fun v4 wr => ∃ i : Nat, i ≤ l.length ∧ i ≤ 400 ∧ v4 = .int .i64 (i : Int) ∧ Hid (∃ v m R, OmR w.heap.size b v m R wr ∧ Good R ∧ R.length ≤ i) ∧ Hid (Below w.heap.size w wr)) (fun v4 _ => 400 - (intOf v4).toNat)
  case atStart => exact ⟨0, Nat.zero_le _, Nat.zero_le _, rfl, Lib.hid ⟨_, _, [], HO0.out, Good.nil, Nat.le_refl _⟩, HB0⟩
  case round =>
    obtain ⟨i, hi, hi4, rfl, HX, HB⟩ := hrel
    rename World => wr
    obtain ⟨v, m, R, hO, hG, hR⟩ := HX.out
    have HO := Lib.hid hO
    have HG := Lib.hid hG
    have HR := Lib.hid hR
    have hRl : R.length ≤ 400 := by omega
    have hcl := lenR_le R
    clear hO hG HX
    have d1 : IntKind.i64.wrap ((R.length : Int) - (lenR R : Int)) = (R.length : Int) - (lenR R : Int) := IntWalk.i64_in _ (by omega)
    have di : IntKind.i64.wrap ((i : Int) + 1) = (i : Int) + 1 := IntWalk.i64_in _ (by omega)
    have hi0' : (0 : Int) ≤ (i : Int) := by omega
    by_cases hlt : i < l.length
    · have hlt' : (i : Int) < (l.length : Int) := by omega
      by_cases hl4 : i < 400
      · have hl4' : (i : Int) < 400 := by omega
        obtain ⟨g, o, rfl, hgl, key⟩ := HP.out (by omega)
        have key2 : ∀ j, j < 11 → wr.cell? ⟨g, o + i * 11 + j, none⟩ = (opC l[i])[j]? := fun j hj => (HB.out.cell (p := ⟨g, _, none⟩) hgl).trans (key i j hlt hj)
        have hgr : g < wr.heap.size := Nat.lt_of_lt_of_le hgl HB.out.size
        have s0 : wr.cell? ⟨g, o + i * 11, none⟩ = some (.int .i64 l[i].kind) := key2 0 (by omega)
        have s1 : wr.cell? ⟨g, o + i * 11 + 1, none⟩ = some (.int .i64 l[i].key.k) := key2 1 (by omega)
        have s2 : wr.cell? ⟨g, o + i * 11 + 2, none⟩ = some (.int .i64 l[i].key.p) := key2 2 (by omega)
        have s3 : wr.cell? ⟨g, o + i * 11 + 3, none⟩ = some (.int .i64 l[i].key.q) := key2 3 (by omega)
        have s4 : wr.cell? ⟨g, o + i * 11 + 4, none⟩ = some (.string l[i].key.s) := key2 4 (by omega)
        have s5 : wr.cell? ⟨g, o + i * 11 + 5, none⟩ = some (.int .i64 l[i].key.r) := key2 5 (by omega)
        have s6 : wr.cell? ⟨g, o + i * 11 + 6, none⟩ = some (.int .i64 l[i].val.k) := key2 6 (by omega)
        have s7 : wr.cell? ⟨g, o + i * 11 + 7, none⟩ = some (.int .i64 l[i].val.p) := key2 7 (by omega)
        have s8 : wr.cell? ⟨g, o + i * 11 + 8, none⟩ = some (.int .i64 l[i].val.q) := key2 8 (by omega)
        have s9 : wr.cell? ⟨g, o + i * 11 + 9, none⟩ = some (.string l[i].val.s) := key2 9 (by omega)
        have s10 : wr.cell? ⟨g, o + i * 11 + 10, none⟩ = some (.int .i64 l[i].val.r) := key2 10 (by omega)
        clear key key2
        by_cases hk : l[i].kind = 1
        · by_cases he : errR l[i].key v5z = 0
          · obtain ⟨hSG, hSL, hN1, hN2, hN3, hN4⟩ := set_nums R HG.out l[i].key v5z he
            have HSG := Lib.hid hSG
            have HSL := Lib.hid hSL
            have hl' := lenR_le (setR R l[i].key v5z)
            have d2 : IntKind.i64.wrap (((setR R l[i].key v5z).length : Int) - (lenR (setR R l[i].key v5z) : Int)) = ((setR R l[i].key v5z).length : Int) - (lenR (setR R l[i].key v5z) : Int) := IntWalk.i64_in _ (by omega)
            by_cases hh : (getR R l[i].key).k = 0
            · have hNN := hN2 rfl hh
              clear hN1 hN2 hN3 hN4
              have d5 : ((setR R l[i].key v5z).length : Int) - (lenR (setR R l[i].key v5z) : Int) = (R.length : Int) - (lenR R : Int) := by omega
              have d6 : (lenR (setR R l[i].key v5z) : Int) = (lenR R : Int) := by omega
              clear hNN
              have HO1 : Hid (OmR w.heap.size b v m R (wr.alloc (.cells #[.int .i64 1, .int .i64 l[i].key.k, .int .i64 l[i].key.p, .int .i64 l[i].key.q, .string l[i].key.s, .int .i64 l[i].key.r, .int .i64 l[i].val.k, .int .i64 l[i].val.p, .int .i64 l[i].val.q, .string l[i].val.s, .int .i64 l[i].val.r] 33))) := Lib.hid (HO.out.ch ((Ch.refl [] wr).alloc _) (by simp))
              have K1 : Hid (Blk 33 wr.heap.size #[.int .i64 1, .int .i64 l[i].key.k, .int .i64 l[i].key.p, .int .i64 l[i].key.q, .string l[i].key.s, .int .i64 l[i].key.r, .int .i64 l[i].val.k, .int .i64 l[i].val.p, .int .i64 l[i].val.q, .string l[i].val.s, .int .i64 l[i].val.r] (wr.alloc (.cells #[.int .i64 1, .int .i64 l[i].key.k, .int .i64 l[i].key.p, .int .i64 l[i].key.q, .string l[i].key.s, .int .i64 l[i].key.r, .int .i64 l[i].val.k, .int .i64 l[i].val.p, .int .i64 l[i].val.q, .string l[i].val.s, .int .i64 l[i].val.r] 33))) := Lib.hid (Blk.new wr _ _ _ rfl)
              have HB1 : Hid (Below w.heap.size w (wr.alloc (.cells #[.int .i64 1, .int .i64 l[i].key.k, .int .i64 l[i].key.p, .int .i64 l[i].key.q, .string l[i].key.s, .int .i64 l[i].key.r, .int .i64 l[i].val.k, .int .i64 l[i].val.p, .int .i64 l[i].val.q, .string l[i].val.s, .int .i64 l[i].val.r] 33))) := Lib.hid (HB.out.alloc HB.out.size _)
              have QG := Lib.hid (get_R w.heap.size b v m R l[i].key _ HO1.out (by omega))
              go_upto_region 9 with (go_at_call 18; (with_reducible refine (QG.out).mono ?_); rintro e w2 ⟨rfl, hb2⟩)
              have HO2 : Hid (OmR w.heap.size b v m R w2) := Lib.hid (HO1.out.ch (Ch.of_below (S := []) hb2) (by simp))
              have K2 := Lib.hid (K1.out.below hb2)
              have HB2 : Hid (Below w.heap.size w w2) := Lib.hid (HB1.out.trans (hb2.mono HB1.out.size))
              have QS := Lib.hid (slots_R w.heap.size b v m R w2 HO2.out)
              have QL := Lib.hid (len_R w.heap.size b v m R w2 HO2.out)
              clear hb2 QG
              have z2 : wr.heap.size < w2.heap.size := K2.out.lt
              have u0 : w2.cell? ⟨wr.heap.size, 0, none⟩ = some (.int .i64 1) := K2.out.cell 0
              have u1 : w2.cell? ⟨wr.heap.size, 1, none⟩ = some (.int .i64 l[i].key.k) := K2.out.cell 1
              have u2 : w2.cell? ⟨wr.heap.size, 2, none⟩ = some (.int .i64 l[i].key.p) := K2.out.cell 2
              have u3 : w2.cell? ⟨wr.heap.size, 3, none⟩ = some (.int .i64 l[i].key.q) := K2.out.cell 3
              have u4 : w2.cell? ⟨wr.heap.size, 4, none⟩ = some (.string l[i].key.s) := K2.out.cell 4
              have u5 : w2.cell? ⟨wr.heap.size, 5, none⟩ = some (.int .i64 l[i].key.r) := K2.out.cell 5
              have u6 : w2.cell? ⟨wr.heap.size, 6, none⟩ = some (.int .i64 l[i].val.k) := K2.out.cell 6
              have u7 : w2.cell? ⟨wr.heap.size, 7, none⟩ = some (.int .i64 l[i].val.p) := K2.out.cell 7
              have u8 : w2.cell? ⟨wr.heap.size, 8, none⟩ = some (.int .i64 l[i].val.q) := K2.out.cell 8
              have u9 : w2.cell? ⟨wr.heap.size, 9, none⟩ = some (.string l[i].val.s) := K2.out.cell 9
              have u10 : w2.cell? ⟨wr.heap.size, 10, none⟩ = some (.int .i64 l[i].val.r) := K2.out.cell 10
              go_upto_region 13 with (first | (go_at_call 21; (with_reducible refine (QS.out).mono ?_); rintro e w3 ⟨rfl, rfl⟩) | (go_at_call 19; (with_reducible refine (QL.out).mono ?_); rintro e w3 ⟨rfl, rfl⟩))
              have HO3 : Hid (OmR w.heap.size b v m R (w2.alloc (.cells #[.int .i64 0, .int .i64 0, .int .i64 0, .string ⟨#[]⟩, .int .i64 0] 31))) := Lib.hid (HO2.out.ch ((Ch.refl [] w2).alloc _) (by simp))
              have K3 : Hid (Blk 33 wr.heap.size #[.int .i64 1, .int .i64 l[i].key.k, .int .i64 l[i].key.p, .int .i64 l[i].key.q, .string l[i].key.s, .int .i64 l[i].key.r, .int .i64 l[i].val.k, .int .i64 l[i].val.p, .int .i64 l[i].val.q, .string l[i].val.s, .int .i64 l[i].val.r] (w2.alloc (.cells #[.int .i64 0, .int .i64 0, .int .i64 0, .string ⟨#[]⟩, .int .i64 0] 31))) := Lib.hid (K2.out.ch ((Ch.refl [] w2).alloc _) (by simp))
              have N3 : Hid (Blk 31 w2.heap.size #[.int .i64 0, .int .i64 0, .int .i64 0, .string ⟨#[]⟩, .int .i64 0] (w2.alloc (.cells #[.int .i64 0, .int .i64 0, .int .i64 0, .string ⟨#[]⟩, .int .i64 0] 31))) := Lib.hid (Blk.new w2 _ _ _ rfl)
              have HB3 : Hid (Below w.heap.size w (w2.alloc (.cells #[.int .i64 0, .int .i64 0, .int .i64 0, .string ⟨#[]⟩, .int .i64 0] 31))) := Lib.hid (HB2.out.alloc HB2.out.size _)
              have QT : Hid (Calls Try.prog 20 #[.pointer (some ⟨b, 0, none⟩), .agg #[.int .i64 l[i].key.k, .int .i64 l[i].key.p, .int .i64 l[i].key.q, .string l[i].key.s, .int .i64 l[i].key.r], .agg #[.int .i64 0, .int .i64 0, .int .i64 0, .string ⟨#[]⟩, .int .i64 0]] (w2.alloc (.cells #[.int .i64 0, .int .i64 0, .int .i64 0, .string ⟨#[]⟩, .int .i64 0] 31)) fun e w' => e = .returned (.int .i64 (errR l[i].key v5z)) ∧ (∃ v' m', OmR w.heap.size b v' m' (setR R l[i].key v5z) w' ∧ ∀ g ∈ omS b v' m', g ∈ omS b v m ∨ (w2.alloc (.cells #[.int .i64 0, .int .i64 0, .int .i64 0, .string ⟨#[]⟩, .int .i64 0] 31)).heap.size ≤ g) ∧ Ch (omS b v m) (w2.alloc (.cells #[.int .i64 0, .int .i64 0, .int .i64 0, .string ⟨#[]⟩, .int .i64 0] 31)) w') := Lib.hid (set_R w.heap.size b v m R l[i].key v5z _ HO3.out (by omega) HB3.out.size)
              go_upto_region 14 with (go_at_call 20; (with_reducible refine (QT.out).mono ?_); rintro e w4 ⟨rfl, ⟨v', m', ho4, hf4⟩, hc4⟩)
              have HO4 := Lib.hid ho4
              have N4 : Hid (Blk 31 w2.heap.size #[.int .i64 0, .int .i64 0, .int .i64 0, .string ⟨#[]⟩, .int .i64 0] w4) := Lib.hid (N3.out.ch hc4 (fun h => absurd (HO2.out.lt _ h).2 (Nat.lt_irrefl _)))
              have HB4 : Hid (Below w.heap.size w w4) := Lib.hid (HB3.out.trans (hc4.belowB (fun g hg => (HO3.out.lt g hg).1) HB3.out.size))
              have QS4 := Lib.hid (slots_R w.heap.size b v' m' (setR R l[i].key v5z) w4 HO4.out)
              have QL4 := Lib.hid (len_R w.heap.size b v' m' (setR R l[i].key v5z) w4 HO4.out)
              have n0 : w4.cell? ⟨w2.heap.size, 0, none⟩ = some (.int .i64 0) := N4.out.cell 0
              have z4 : w2.heap.size < w4.heap.size := N4.out.lt
              clear ho4 hf4 hc4 QT QS QL
              go_wp2_with (first | (go_at_call 21; (with_reducible refine (QS4.out).mono ?_); rintro e w5 ⟨rfl, rfl⟩) | (go_at_call 19; (with_reducible refine (QL4.out).mono ?_); rintro e w5 ⟨rfl, rfl⟩))
              all_goals (go_roundw; (case rel => exact ⟨i + 1, by omega, by omega, by go_num, Lib.hid ⟨v', m', _, HO4.out, HSG.out, by have := HSL.out; omega⟩, HB4⟩); (case measure => simp [intOf]; omega))
            · have hNN := hN1 rfl hh
              clear hN1 hN2 hN3 hN4
              have hb1 : ((getR R l[i].key).k == 0) = false := beq_eq_false_iff_ne.2 hh
              have hb2 : ((getR R l[i].key).k != 0) = true := bne_iff_ne.2 hh
              have d3 : IntKind.i64.wrap ((R.length : Int) - (lenR R : Int) + 1) = (R.length : Int) - (lenR R : Int) + 1 := IntWalk.i64_in _ (by omega)
              have d4 : IntKind.i64.wrap ((lenR R : Int) - 1) = (lenR R : Int) - 1 := IntWalk.i64_in _ (by omega)
              have d5 : ((setR R l[i].key v5z).length : Int) - (lenR (setR R l[i].key v5z) : Int) = (R.length : Int) - (lenR R : Int) + 1 := by omega
              have d6 : (lenR (setR R l[i].key v5z) : Int) = (lenR R : Int) - 1 := by omega
              clear hNN
              have HO1 : Hid (OmR w.heap.size b v m R (wr.alloc (.cells #[.int .i64 1, .int .i64 l[i].key.k, .int .i64 l[i].key.p, .int .i64 l[i].key.q, .string l[i].key.s, .int .i64 l[i].key.r, .int .i64 l[i].val.k, .int .i64 l[i].val.p, .int .i64 l[i].val.q, .string l[i].val.s, .int .i64 l[i].val.r] 33))) := Lib.hid (HO.out.ch ((Ch.refl [] wr).alloc _) (by simp))
              have K1 : Hid (Blk 33 wr.heap.size #[.int .i64 1, .int .i64 l[i].key.k, .int .i64 l[i].key.p, .int .i64 l[i].key.q, .string l[i].key.s, .int .i64 l[i].key.r, .int .i64 l[i].val.k, .int .i64 l[i].val.p, .int .i64 l[i].val.q, .string l[i].val.s, .int .i64 l[i].val.r] (wr.alloc (.cells #[.int .i64 1, .int .i64 l[i].key.k, .int .i64 l[i].key.p, .int .i64 l[i].key.q, .string l[i].key.s, .int .i64 l[i].key.r, .int .i64 l[i].val.k, .int .i64 l[i].val.p, .int .i64 l[i].val.q, .string l[i].val.s, .int .i64 l[i].val.r] 33))) := Lib.hid (Blk.new wr _ _ _ rfl)
              have HB1 : Hid (Below w.heap.size w (wr.alloc (.cells #[.int .i64 1, .int .i64 l[i].key.k, .int .i64 l[i].key.p, .int .i64 l[i].key.q, .string l[i].key.s, .int .i64 l[i].key.r, .int .i64 l[i].val.k, .int .i64 l[i].val.p, .int .i64 l[i].val.q, .string l[i].val.s, .int .i64 l[i].val.r] 33))) := Lib.hid (HB.out.alloc HB.out.size _)
              have QG := Lib.hid (get_R w.heap.size b v m R l[i].key _ HO1.out (by omega))
              go_upto_region 9 with (go_at_call 18; (with_reducible refine (QG.out).mono ?_); rintro e w2 ⟨rfl, hb2⟩)
              have HO2 : Hid (OmR w.heap.size b v m R w2) := Lib.hid (HO1.out.ch (Ch.of_below (S := []) hb2) (by simp))
              have K2 := Lib.hid (K1.out.below hb2)
              have HB2 : Hid (Below w.heap.size w w2) := Lib.hid (HB1.out.trans (hb2.mono HB1.out.size))
              have QS := Lib.hid (slots_R w.heap.size b v m R w2 HO2.out)
              have QL := Lib.hid (len_R w.heap.size b v m R w2 HO2.out)
              clear hb2 QG
              have z2 : wr.heap.size < w2.heap.size := K2.out.lt
              have u0 : w2.cell? ⟨wr.heap.size, 0, none⟩ = some (.int .i64 1) := K2.out.cell 0
              have u1 : w2.cell? ⟨wr.heap.size, 1, none⟩ = some (.int .i64 l[i].key.k) := K2.out.cell 1
              have u2 : w2.cell? ⟨wr.heap.size, 2, none⟩ = some (.int .i64 l[i].key.p) := K2.out.cell 2
              have u3 : w2.cell? ⟨wr.heap.size, 3, none⟩ = some (.int .i64 l[i].key.q) := K2.out.cell 3
              have u4 : w2.cell? ⟨wr.heap.size, 4, none⟩ = some (.string l[i].key.s) := K2.out.cell 4
              have u5 : w2.cell? ⟨wr.heap.size, 5, none⟩ = some (.int .i64 l[i].key.r) := K2.out.cell 5
              have u6 : w2.cell? ⟨wr.heap.size, 6, none⟩ = some (.int .i64 l[i].val.k) := K2.out.cell 6
              have u7 : w2.cell? ⟨wr.heap.size, 7, none⟩ = some (.int .i64 l[i].val.p) := K2.out.cell 7
              have u8 : w2.cell? ⟨wr.heap.size, 8, none⟩ = some (.int .i64 l[i].val.q) := K2.out.cell 8
              have u9 : w2.cell? ⟨wr.heap.size, 9, none⟩ = some (.string l[i].val.s) := K2.out.cell 9
              have u10 : w2.cell? ⟨wr.heap.size, 10, none⟩ = some (.int .i64 l[i].val.r) := K2.out.cell 10
              go_upto_region 13 with (first | (go_at_call 21; (with_reducible refine (QS.out).mono ?_); rintro e w3 ⟨rfl, rfl⟩) | (go_at_call 19; (with_reducible refine (QL.out).mono ?_); rintro e w3 ⟨rfl, rfl⟩))
              have HO3 : Hid (OmR w.heap.size b v m R (w2.alloc (.cells #[.int .i64 0, .int .i64 0, .int .i64 0, .string ⟨#[]⟩, .int .i64 0] 31))) := Lib.hid (HO2.out.ch ((Ch.refl [] w2).alloc _) (by simp))
              have K3 : Hid (Blk 33 wr.heap.size #[.int .i64 1, .int .i64 l[i].key.k, .int .i64 l[i].key.p, .int .i64 l[i].key.q, .string l[i].key.s, .int .i64 l[i].key.r, .int .i64 l[i].val.k, .int .i64 l[i].val.p, .int .i64 l[i].val.q, .string l[i].val.s, .int .i64 l[i].val.r] (w2.alloc (.cells #[.int .i64 0, .int .i64 0, .int .i64 0, .string ⟨#[]⟩, .int .i64 0] 31))) := Lib.hid (K2.out.ch ((Ch.refl [] w2).alloc _) (by simp))
              have N3 : Hid (Blk 31 w2.heap.size #[.int .i64 0, .int .i64 0, .int .i64 0, .string ⟨#[]⟩, .int .i64 0] (w2.alloc (.cells #[.int .i64 0, .int .i64 0, .int .i64 0, .string ⟨#[]⟩, .int .i64 0] 31))) := Lib.hid (Blk.new w2 _ _ _ rfl)
              have HB3 : Hid (Below w.heap.size w (w2.alloc (.cells #[.int .i64 0, .int .i64 0, .int .i64 0, .string ⟨#[]⟩, .int .i64 0] 31))) := Lib.hid (HB2.out.alloc HB2.out.size _)
              have QT : Hid (Calls Try.prog 20 #[.pointer (some ⟨b, 0, none⟩), .agg #[.int .i64 l[i].key.k, .int .i64 l[i].key.p, .int .i64 l[i].key.q, .string l[i].key.s, .int .i64 l[i].key.r], .agg #[.int .i64 0, .int .i64 0, .int .i64 0, .string ⟨#[]⟩, .int .i64 0]] (w2.alloc (.cells #[.int .i64 0, .int .i64 0, .int .i64 0, .string ⟨#[]⟩, .int .i64 0] 31)) fun e w' => e = .returned (.int .i64 (errR l[i].key v5z)) ∧ (∃ v' m', OmR w.heap.size b v' m' (setR R l[i].key v5z) w' ∧ ∀ g ∈ omS b v' m', g ∈ omS b v m ∨ (w2.alloc (.cells #[.int .i64 0, .int .i64 0, .int .i64 0, .string ⟨#[]⟩, .int .i64 0] 31)).heap.size ≤ g) ∧ Ch (omS b v m) (w2.alloc (.cells #[.int .i64 0, .int .i64 0, .int .i64 0, .string ⟨#[]⟩, .int .i64 0] 31)) w') := Lib.hid (set_R w.heap.size b v m R l[i].key v5z _ HO3.out (by omega) HB3.out.size)
              go_upto_region 14 with (go_at_call 20; (with_reducible refine (QT.out).mono ?_); rintro e w4 ⟨rfl, ⟨v', m', ho4, hf4⟩, hc4⟩)
              have HO4 := Lib.hid ho4
              have N4 : Hid (Blk 31 w2.heap.size #[.int .i64 0, .int .i64 0, .int .i64 0, .string ⟨#[]⟩, .int .i64 0] w4) := Lib.hid (N3.out.ch hc4 (fun h => absurd (HO2.out.lt _ h).2 (Nat.lt_irrefl _)))
              have HB4 : Hid (Below w.heap.size w w4) := Lib.hid (HB3.out.trans (hc4.belowB (fun g hg => (HO3.out.lt g hg).1) HB3.out.size))
              have QS4 := Lib.hid (slots_R w.heap.size b v' m' (setR R l[i].key v5z) w4 HO4.out)
              have QL4 := Lib.hid (len_R w.heap.size b v' m' (setR R l[i].key v5z) w4 HO4.out)
              have n0 : w4.cell? ⟨w2.heap.size, 0, none⟩ = some (.int .i64 0) := N4.out.cell 0
              have z4 : w2.heap.size < w4.heap.size := N4.out.lt
              clear ho4 hf4 hc4 QT QS QL
              go_wp2_with (first | (go_at_call 21; (with_reducible refine (QS4.out).mono ?_); rintro e w5 ⟨rfl, rfl⟩) | (go_at_call 19; (with_reducible refine (QL4.out).mono ?_); rintro e w5 ⟨rfl, rfl⟩))
              all_goals (go_roundw; (case rel => exact ⟨i + 1, by omega, by omega, by go_num, Lib.hid ⟨v', m', _, HO4.out, HSG.out, by have := HSL.out; omega⟩, HB4⟩); (case measure => simp [intOf]; omega))
          · have HO1 : Hid (OmR w.heap.size b v m R (wr.alloc (.cells #[.int .i64 1, .int .i64 l[i].key.k, .int .i64 l[i].key.p, .int .i64 l[i].key.q, .string l[i].key.s, .int .i64 l[i].key.r, .int .i64 l[i].val.k, .int .i64 l[i].val.p, .int .i64 l[i].val.q, .string l[i].val.s, .int .i64 l[i].val.r] 33))) := Lib.hid (HO.out.ch ((Ch.refl [] wr).alloc _) (by simp))
            have K1 : Hid (Blk 33 wr.heap.size #[.int .i64 1, .int .i64 l[i].key.k, .int .i64 l[i].key.p, .int .i64 l[i].key.q, .string l[i].key.s, .int .i64 l[i].key.r, .int .i64 l[i].val.k, .int .i64 l[i].val.p, .int .i64 l[i].val.q, .string l[i].val.s, .int .i64 l[i].val.r] (wr.alloc (.cells #[.int .i64 1, .int .i64 l[i].key.k, .int .i64 l[i].key.p, .int .i64 l[i].key.q, .string l[i].key.s, .int .i64 l[i].key.r, .int .i64 l[i].val.k, .int .i64 l[i].val.p, .int .i64 l[i].val.q, .string l[i].val.s, .int .i64 l[i].val.r] 33))) := Lib.hid (Blk.new wr _ _ _ rfl)
            have HB1 : Hid (Below w.heap.size w (wr.alloc (.cells #[.int .i64 1, .int .i64 l[i].key.k, .int .i64 l[i].key.p, .int .i64 l[i].key.q, .string l[i].key.s, .int .i64 l[i].key.r, .int .i64 l[i].val.k, .int .i64 l[i].val.p, .int .i64 l[i].val.q, .string l[i].val.s, .int .i64 l[i].val.r] 33))) := Lib.hid (HB.out.alloc HB.out.size _)
            have QG := Lib.hid (get_R w.heap.size b v m R l[i].key _ HO1.out (by omega))
            go_upto_region 9 with (go_at_call 18; (with_reducible refine (QG.out).mono ?_); rintro e w2 ⟨rfl, hb2⟩)
            have HO2 : Hid (OmR w.heap.size b v m R w2) := Lib.hid (HO1.out.ch (Ch.of_below (S := []) hb2) (by simp))
            have K2 := Lib.hid (K1.out.below hb2)
            have HB2 : Hid (Below w.heap.size w w2) := Lib.hid (HB1.out.trans (hb2.mono HB1.out.size))
            have QS := Lib.hid (slots_R w.heap.size b v m R w2 HO2.out)
            have QL := Lib.hid (len_R w.heap.size b v m R w2 HO2.out)
            clear hb2 QG
            have z2 : wr.heap.size < w2.heap.size := K2.out.lt
            have u0 : w2.cell? ⟨wr.heap.size, 0, none⟩ = some (.int .i64 1) := K2.out.cell 0
            have u1 : w2.cell? ⟨wr.heap.size, 1, none⟩ = some (.int .i64 l[i].key.k) := K2.out.cell 1
            have u2 : w2.cell? ⟨wr.heap.size, 2, none⟩ = some (.int .i64 l[i].key.p) := K2.out.cell 2
            have u3 : w2.cell? ⟨wr.heap.size, 3, none⟩ = some (.int .i64 l[i].key.q) := K2.out.cell 3
            have u4 : w2.cell? ⟨wr.heap.size, 4, none⟩ = some (.string l[i].key.s) := K2.out.cell 4
            have u5 : w2.cell? ⟨wr.heap.size, 5, none⟩ = some (.int .i64 l[i].key.r) := K2.out.cell 5
            have u6 : w2.cell? ⟨wr.heap.size, 6, none⟩ = some (.int .i64 l[i].val.k) := K2.out.cell 6
            have u7 : w2.cell? ⟨wr.heap.size, 7, none⟩ = some (.int .i64 l[i].val.p) := K2.out.cell 7
            have u8 : w2.cell? ⟨wr.heap.size, 8, none⟩ = some (.int .i64 l[i].val.q) := K2.out.cell 8
            have u9 : w2.cell? ⟨wr.heap.size, 9, none⟩ = some (.string l[i].val.s) := K2.out.cell 9
            have u10 : w2.cell? ⟨wr.heap.size, 10, none⟩ = some (.int .i64 l[i].val.r) := K2.out.cell 10
            go_upto_region 13 with (first | (go_at_call 21; (with_reducible refine (QS.out).mono ?_); rintro e w3 ⟨rfl, rfl⟩) | (go_at_call 19; (with_reducible refine (QL.out).mono ?_); rintro e w3 ⟨rfl, rfl⟩))
            have HO3 : Hid (OmR w.heap.size b v m R (w2.alloc (.cells #[.int .i64 0, .int .i64 0, .int .i64 0, .string ⟨#[]⟩, .int .i64 0] 31))) := Lib.hid (HO2.out.ch ((Ch.refl [] w2).alloc _) (by simp))
            have K3 : Hid (Blk 33 wr.heap.size #[.int .i64 1, .int .i64 l[i].key.k, .int .i64 l[i].key.p, .int .i64 l[i].key.q, .string l[i].key.s, .int .i64 l[i].key.r, .int .i64 l[i].val.k, .int .i64 l[i].val.p, .int .i64 l[i].val.q, .string l[i].val.s, .int .i64 l[i].val.r] (w2.alloc (.cells #[.int .i64 0, .int .i64 0, .int .i64 0, .string ⟨#[]⟩, .int .i64 0] 31))) := Lib.hid (K2.out.ch ((Ch.refl [] w2).alloc _) (by simp))
            have N3 : Hid (Blk 31 w2.heap.size #[.int .i64 0, .int .i64 0, .int .i64 0, .string ⟨#[]⟩, .int .i64 0] (w2.alloc (.cells #[.int .i64 0, .int .i64 0, .int .i64 0, .string ⟨#[]⟩, .int .i64 0] 31))) := Lib.hid (Blk.new w2 _ _ _ rfl)
            have HB3 : Hid (Below w.heap.size w (w2.alloc (.cells #[.int .i64 0, .int .i64 0, .int .i64 0, .string ⟨#[]⟩, .int .i64 0] 31))) := Lib.hid (HB2.out.alloc HB2.out.size _)
            have QT : Hid (Calls Try.prog 20 #[.pointer (some ⟨b, 0, none⟩), .agg #[.int .i64 l[i].key.k, .int .i64 l[i].key.p, .int .i64 l[i].key.q, .string l[i].key.s, .int .i64 l[i].key.r], .agg #[.int .i64 0, .int .i64 0, .int .i64 0, .string ⟨#[]⟩, .int .i64 0]] (w2.alloc (.cells #[.int .i64 0, .int .i64 0, .int .i64 0, .string ⟨#[]⟩, .int .i64 0] 31)) fun e w' => e = .returned (.int .i64 (errR l[i].key v5z)) ∧ (∃ v' m', OmR w.heap.size b v' m' (setR R l[i].key v5z) w' ∧ ∀ g ∈ omS b v' m', g ∈ omS b v m ∨ (w2.alloc (.cells #[.int .i64 0, .int .i64 0, .int .i64 0, .string ⟨#[]⟩, .int .i64 0] 31)).heap.size ≤ g) ∧ Ch (omS b v m) (w2.alloc (.cells #[.int .i64 0, .int .i64 0, .int .i64 0, .string ⟨#[]⟩, .int .i64 0] 31)) w') := Lib.hid (set_R w.heap.size b v m R l[i].key v5z _ HO3.out (by omega) HB3.out.size)
            go_wp2_with (go_at_call 20; (with_reducible refine (QT.out).mono ?_); rintro e w4 ⟨rfl, ⟨v', m', ho4, hf4⟩, hc4⟩)
            rw [setR_err he] at ho4
            go_roundw
            case rel => exact ⟨i + 1, by omega, by omega, by go_num, Lib.hid ⟨v', m', R, ho4, HG.out, by have := HR.out; omega⟩, Lib.hid (HB3.out.trans (hc4.belowB (fun g hg => (HO3.out.lt g hg).1) HB3.out.size))⟩
            case measure => simp [intOf]; omega

        · have hb0 : (l[i].kind == 1) = false := beq_eq_false_iff_ne.2 hk
          by_cases he : errR l[i].key l[i].val = 0
          · obtain ⟨hSG, hSL, hN1, hN2, hN3, hN4⟩ := set_nums R HG.out l[i].key l[i].val he
            have HSG := Lib.hid hSG
            have HSL := Lib.hid hSL
            have hl' := lenR_le (setR R l[i].key l[i].val)
            have d2 : IntKind.i64.wrap (((setR R l[i].key l[i].val).length : Int) - (lenR (setR R l[i].key l[i].val) : Int)) = ((setR R l[i].key l[i].val).length : Int) - (lenR (setR R l[i].key l[i].val) : Int) := IntWalk.i64_in _ (by omega)
            by_cases hh : (getR R l[i].key).k = 0
            · by_cases h0 : l[i].val.k = 0
              · have hNN := hN2 h0 hh
                clear hN1 hN2 hN3 hN4
                have d5 : ((setR R l[i].key l[i].val).length : Int) - (lenR (setR R l[i].key l[i].val) : Int) = (R.length : Int) - (lenR R : Int) := by omega
                have d6 : (lenR (setR R l[i].key l[i].val) : Int) = (lenR R : Int) := by omega
                clear hNN
                have HO1 : Hid (OmR w.heap.size b v m R (wr.alloc (.cells #[.int .i64 l[i].kind, .int .i64 l[i].key.k, .int .i64 l[i].key.p, .int .i64 l[i].key.q, .string l[i].key.s, .int .i64 l[i].key.r, .int .i64 0, .int .i64 l[i].val.p, .int .i64 l[i].val.q, .string l[i].val.s, .int .i64 l[i].val.r] 33))) := Lib.hid (HO.out.ch ((Ch.refl [] wr).alloc _) (by simp))
                have K1 : Hid (Blk 33 wr.heap.size #[.int .i64 l[i].kind, .int .i64 l[i].key.k, .int .i64 l[i].key.p, .int .i64 l[i].key.q, .string l[i].key.s, .int .i64 l[i].key.r, .int .i64 0, .int .i64 l[i].val.p, .int .i64 l[i].val.q, .string l[i].val.s, .int .i64 l[i].val.r] (wr.alloc (.cells #[.int .i64 l[i].kind, .int .i64 l[i].key.k, .int .i64 l[i].key.p, .int .i64 l[i].key.q, .string l[i].key.s, .int .i64 l[i].key.r, .int .i64 0, .int .i64 l[i].val.p, .int .i64 l[i].val.q, .string l[i].val.s, .int .i64 l[i].val.r] 33))) := Lib.hid (Blk.new wr _ _ _ rfl)
                have HB1 : Hid (Below w.heap.size w (wr.alloc (.cells #[.int .i64 l[i].kind, .int .i64 l[i].key.k, .int .i64 l[i].key.p, .int .i64 l[i].key.q, .string l[i].key.s, .int .i64 l[i].key.r, .int .i64 0, .int .i64 l[i].val.p, .int .i64 l[i].val.q, .string l[i].val.s, .int .i64 l[i].val.r] 33))) := Lib.hid (HB.out.alloc HB.out.size _)
                have QG := Lib.hid (get_R w.heap.size b v m R l[i].key _ HO1.out (by omega))
                go_upto_region 9 with (go_at_call 18; (with_reducible refine (QG.out).mono ?_); rintro e w2 ⟨rfl, hb2⟩)
                have HO2 : Hid (OmR w.heap.size b v m R w2) := Lib.hid (HO1.out.ch (Ch.of_below (S := []) hb2) (by simp))
                have K2 := Lib.hid (K1.out.below hb2)
                have HB2 : Hid (Below w.heap.size w w2) := Lib.hid (HB1.out.trans (hb2.mono HB1.out.size))
                have QS := Lib.hid (slots_R w.heap.size b v m R w2 HO2.out)
                have QL := Lib.hid (len_R w.heap.size b v m R w2 HO2.out)
                clear hb2 QG
                have z2 : wr.heap.size < w2.heap.size := K2.out.lt
                have u0 : w2.cell? ⟨wr.heap.size, 0, none⟩ = some (.int .i64 l[i].kind) := K2.out.cell 0
                have u1 : w2.cell? ⟨wr.heap.size, 1, none⟩ = some (.int .i64 l[i].key.k) := K2.out.cell 1
                have u2 : w2.cell? ⟨wr.heap.size, 2, none⟩ = some (.int .i64 l[i].key.p) := K2.out.cell 2
                have u3 : w2.cell? ⟨wr.heap.size, 3, none⟩ = some (.int .i64 l[i].key.q) := K2.out.cell 3
                have u4 : w2.cell? ⟨wr.heap.size, 4, none⟩ = some (.string l[i].key.s) := K2.out.cell 4
                have u5 : w2.cell? ⟨wr.heap.size, 5, none⟩ = some (.int .i64 l[i].key.r) := K2.out.cell 5
                have u6 : w2.cell? ⟨wr.heap.size, 6, none⟩ = some (.int .i64 0) := K2.out.cell 6
                have u7 : w2.cell? ⟨wr.heap.size, 7, none⟩ = some (.int .i64 l[i].val.p) := K2.out.cell 7
                have u8 : w2.cell? ⟨wr.heap.size, 8, none⟩ = some (.int .i64 l[i].val.q) := K2.out.cell 8
                have u9 : w2.cell? ⟨wr.heap.size, 9, none⟩ = some (.string l[i].val.s) := K2.out.cell 9
                have u10 : w2.cell? ⟨wr.heap.size, 10, none⟩ = some (.int .i64 l[i].val.r) := K2.out.cell 10
                go_upto_region 13 with (first | (go_at_call 21; (with_reducible refine (QS.out).mono ?_); rintro e w3 ⟨rfl, rfl⟩) | (go_at_call 19; (with_reducible refine (QL.out).mono ?_); rintro e w3 ⟨rfl, rfl⟩))
                have HO3 : Hid (OmR w.heap.size b v m R (w2.alloc (.cells #[.int .i64 0, .int .i64 l[i].val.p, .int .i64 l[i].val.q, .string l[i].val.s, .int .i64 l[i].val.r] 31))) := Lib.hid (HO2.out.ch ((Ch.refl [] w2).alloc _) (by simp))
                have K3 : Hid (Blk 33 wr.heap.size #[.int .i64 l[i].kind, .int .i64 l[i].key.k, .int .i64 l[i].key.p, .int .i64 l[i].key.q, .string l[i].key.s, .int .i64 l[i].key.r, .int .i64 0, .int .i64 l[i].val.p, .int .i64 l[i].val.q, .string l[i].val.s, .int .i64 l[i].val.r] (w2.alloc (.cells #[.int .i64 0, .int .i64 l[i].val.p, .int .i64 l[i].val.q, .string l[i].val.s, .int .i64 l[i].val.r] 31))) := Lib.hid (K2.out.ch ((Ch.refl [] w2).alloc _) (by simp))
                have N3 : Hid (Blk 31 w2.heap.size #[.int .i64 0, .int .i64 l[i].val.p, .int .i64 l[i].val.q, .string l[i].val.s, .int .i64 l[i].val.r] (w2.alloc (.cells #[.int .i64 0, .int .i64 l[i].val.p, .int .i64 l[i].val.q, .string l[i].val.s, .int .i64 l[i].val.r] 31))) := Lib.hid (Blk.new w2 _ _ _ rfl)
                have HB3 : Hid (Below w.heap.size w (w2.alloc (.cells #[.int .i64 0, .int .i64 l[i].val.p, .int .i64 l[i].val.q, .string l[i].val.s, .int .i64 l[i].val.r] 31))) := Lib.hid (HB2.out.alloc HB2.out.size _)
                have QT : Hid (Calls Try.prog 20 #[.pointer (some ⟨b, 0, none⟩), .agg #[.int .i64 l[i].key.k, .int .i64 l[i].key.p, .int .i64 l[i].key.q, .string l[i].key.s, .int .i64 l[i].key.r], .agg #[.int .i64 0, .int .i64 l[i].val.p, .int .i64 l[i].val.q, .string l[i].val.s, .int .i64 l[i].val.r]] (w2.alloc (.cells #[.int .i64 0, .int .i64 l[i].val.p, .int .i64 l[i].val.q, .string l[i].val.s, .int .i64 l[i].val.r] 31)) fun e w' => e = .returned (.int .i64 (errR l[i].key l[i].val)) ∧ (∃ v' m', OmR w.heap.size b v' m' (setR R l[i].key l[i].val) w' ∧ ∀ g ∈ omS b v' m', g ∈ omS b v m ∨ (w2.alloc (.cells #[.int .i64 0, .int .i64 l[i].val.p, .int .i64 l[i].val.q, .string l[i].val.s, .int .i64 l[i].val.r] 31)).heap.size ≤ g) ∧ Ch (omS b v m) (w2.alloc (.cells #[.int .i64 0, .int .i64 l[i].val.p, .int .i64 l[i].val.q, .string l[i].val.s, .int .i64 l[i].val.r] 31)) w') := Lib.hid (by have := set_R w.heap.size b v m R l[i].key l[i].val _ HO3.out (by omega) HB3.out.size; rw [h0] at this; exact this)
                go_upto_region 14 with (go_at_call 20; (with_reducible refine (QT.out).mono ?_); rintro e w4 ⟨rfl, ⟨v', m', ho4, hf4⟩, hc4⟩)
                have HO4 := Lib.hid ho4
                have N4 : Hid (Blk 31 w2.heap.size #[.int .i64 0, .int .i64 l[i].val.p, .int .i64 l[i].val.q, .string l[i].val.s, .int .i64 l[i].val.r] w4) := Lib.hid (N3.out.ch hc4 (fun h => absurd (HO2.out.lt _ h).2 (Nat.lt_irrefl _)))
                have HB4 : Hid (Below w.heap.size w w4) := Lib.hid (HB3.out.trans (hc4.belowB (fun g hg => (HO3.out.lt g hg).1) HB3.out.size))
                have QS4 := Lib.hid (slots_R w.heap.size b v' m' (setR R l[i].key l[i].val) w4 HO4.out)
                have QL4 := Lib.hid (len_R w.heap.size b v' m' (setR R l[i].key l[i].val) w4 HO4.out)
                have n0 : w4.cell? ⟨w2.heap.size, 0, none⟩ = some (.int .i64 0) := N4.out.cell 0
                have z4 : w2.heap.size < w4.heap.size := N4.out.lt
                clear ho4 hf4 hc4 QT QS QL
                go_wp2_with (first | (go_at_call 21; (with_reducible refine (QS4.out).mono ?_); rintro e w5 ⟨rfl, rfl⟩) | (go_at_call 19; (with_reducible refine (QL4.out).mono ?_); rintro e w5 ⟨rfl, rfl⟩))
                all_goals (go_roundw; (case rel => exact ⟨i + 1, by omega, by omega, by go_num, Lib.hid ⟨v', m', _, HO4.out, HSG.out, by have := HSL.out; omega⟩, HB4⟩); (case measure => simp [intOf]; omega))
              · have hNN := hN4 h0 hh
                clear hN1 hN2 hN3 hN4
                have hb3 : (l[i].val.k == 0) = false := beq_eq_false_iff_ne.2 h0
                have d3 : IntKind.i64.wrap ((lenR (setR R l[i].key l[i].val) : Int) + 7) = (lenR (setR R l[i].key l[i].val) : Int) + 7 := IntWalk.i64_in _ (by omega)
                have d4 : IntKind.i64.wrap ((lenR R : Int) + 1) = (lenR R : Int) + 1 := IntWalk.i64_in _ (by omega)
                have d5 : ((setR R l[i].key l[i].val).length : Int) - (lenR (setR R l[i].key l[i].val) : Int) ≤ (lenR (setR R l[i].key l[i].val) : Int) + 7 := by omega
                have d6 : (lenR (setR R l[i].key l[i].val) : Int) = (lenR R : Int) + 1 := by omega
                have d7 : ((setR R l[i].key l[i].val).length : Int) - (lenR (setR R l[i].key l[i].val) : Int) = (R.length : Int) - (lenR R : Int) ∨ ((setR R l[i].key l[i].val).length : Int) - (lenR (setR R l[i].key l[i].val) : Int) = 0 := by omega
                clear hNN
                have HO1 : Hid (OmR w.heap.size b v m R (wr.alloc (.cells #[.int .i64 l[i].kind, .int .i64 l[i].key.k, .int .i64 l[i].key.p, .int .i64 l[i].key.q, .string l[i].key.s, .int .i64 l[i].key.r, .int .i64 l[i].val.k, .int .i64 l[i].val.p, .int .i64 l[i].val.q, .string l[i].val.s, .int .i64 l[i].val.r] 33))) := Lib.hid (HO.out.ch ((Ch.refl [] wr).alloc _) (by simp))
                have K1 : Hid (Blk 33 wr.heap.size #[.int .i64 l[i].kind, .int .i64 l[i].key.k, .int .i64 l[i].key.p, .int .i64 l[i].key.q, .string l[i].key.s, .int .i64 l[i].key.r, .int .i64 l[i].val.k, .int .i64 l[i].val.p, .int .i64 l[i].val.q, .string l[i].val.s, .int .i64 l[i].val.r] (wr.alloc (.cells #[.int .i64 l[i].kind, .int .i64 l[i].key.k, .int .i64 l[i].key.p, .int .i64 l[i].key.q, .string l[i].key.s, .int .i64 l[i].key.r, .int .i64 l[i].val.k, .int .i64 l[i].val.p, .int .i64 l[i].val.q, .string l[i].val.s, .int .i64 l[i].val.r] 33))) := Lib.hid (Blk.new wr _ _ _ rfl)
                have HB1 : Hid (Below w.heap.size w (wr.alloc (.cells #[.int .i64 l[i].kind, .int .i64 l[i].key.k, .int .i64 l[i].key.p, .int .i64 l[i].key.q, .string l[i].key.s, .int .i64 l[i].key.r, .int .i64 l[i].val.k, .int .i64 l[i].val.p, .int .i64 l[i].val.q, .string l[i].val.s, .int .i64 l[i].val.r] 33))) := Lib.hid (HB.out.alloc HB.out.size _)
                have QG := Lib.hid (get_R w.heap.size b v m R l[i].key _ HO1.out (by omega))
                go_upto_region 9 with (go_at_call 18; (with_reducible refine (QG.out).mono ?_); rintro e w2 ⟨rfl, hb2⟩)
                have HO2 : Hid (OmR w.heap.size b v m R w2) := Lib.hid (HO1.out.ch (Ch.of_below (S := []) hb2) (by simp))
                have K2 := Lib.hid (K1.out.below hb2)
                have HB2 : Hid (Below w.heap.size w w2) := Lib.hid (HB1.out.trans (hb2.mono HB1.out.size))
                have QS := Lib.hid (slots_R w.heap.size b v m R w2 HO2.out)
                have QL := Lib.hid (len_R w.heap.size b v m R w2 HO2.out)
                clear hb2 QG
                have z2 : wr.heap.size < w2.heap.size := K2.out.lt
                have u0 : w2.cell? ⟨wr.heap.size, 0, none⟩ = some (.int .i64 l[i].kind) := K2.out.cell 0
                have u1 : w2.cell? ⟨wr.heap.size, 1, none⟩ = some (.int .i64 l[i].key.k) := K2.out.cell 1
                have u2 : w2.cell? ⟨wr.heap.size, 2, none⟩ = some (.int .i64 l[i].key.p) := K2.out.cell 2
                have u3 : w2.cell? ⟨wr.heap.size, 3, none⟩ = some (.int .i64 l[i].key.q) := K2.out.cell 3
                have u4 : w2.cell? ⟨wr.heap.size, 4, none⟩ = some (.string l[i].key.s) := K2.out.cell 4
                have u5 : w2.cell? ⟨wr.heap.size, 5, none⟩ = some (.int .i64 l[i].key.r) := K2.out.cell 5
                have u6 : w2.cell? ⟨wr.heap.size, 6, none⟩ = some (.int .i64 l[i].val.k) := K2.out.cell 6
                have u7 : w2.cell? ⟨wr.heap.size, 7, none⟩ = some (.int .i64 l[i].val.p) := K2.out.cell 7
                have u8 : w2.cell? ⟨wr.heap.size, 8, none⟩ = some (.int .i64 l[i].val.q) := K2.out.cell 8
                have u9 : w2.cell? ⟨wr.heap.size, 9, none⟩ = some (.string l[i].val.s) := K2.out.cell 9
                have u10 : w2.cell? ⟨wr.heap.size, 10, none⟩ = some (.int .i64 l[i].val.r) := K2.out.cell 10
                go_upto_region 13 with (first | (go_at_call 21; (with_reducible refine (QS.out).mono ?_); rintro e w3 ⟨rfl, rfl⟩) | (go_at_call 19; (with_reducible refine (QL.out).mono ?_); rintro e w3 ⟨rfl, rfl⟩))
                have HO3 : Hid (OmR w.heap.size b v m R (w2.alloc (.cells #[.int .i64 l[i].val.k, .int .i64 l[i].val.p, .int .i64 l[i].val.q, .string l[i].val.s, .int .i64 l[i].val.r] 31))) := Lib.hid (HO2.out.ch ((Ch.refl [] w2).alloc _) (by simp))
                have K3 : Hid (Blk 33 wr.heap.size #[.int .i64 l[i].kind, .int .i64 l[i].key.k, .int .i64 l[i].key.p, .int .i64 l[i].key.q, .string l[i].key.s, .int .i64 l[i].key.r, .int .i64 l[i].val.k, .int .i64 l[i].val.p, .int .i64 l[i].val.q, .string l[i].val.s, .int .i64 l[i].val.r] (w2.alloc (.cells #[.int .i64 l[i].val.k, .int .i64 l[i].val.p, .int .i64 l[i].val.q, .string l[i].val.s, .int .i64 l[i].val.r] 31))) := Lib.hid (K2.out.ch ((Ch.refl [] w2).alloc _) (by simp))
                have N3 : Hid (Blk 31 w2.heap.size #[.int .i64 l[i].val.k, .int .i64 l[i].val.p, .int .i64 l[i].val.q, .string l[i].val.s, .int .i64 l[i].val.r] (w2.alloc (.cells #[.int .i64 l[i].val.k, .int .i64 l[i].val.p, .int .i64 l[i].val.q, .string l[i].val.s, .int .i64 l[i].val.r] 31))) := Lib.hid (Blk.new w2 _ _ _ rfl)
                have HB3 : Hid (Below w.heap.size w (w2.alloc (.cells #[.int .i64 l[i].val.k, .int .i64 l[i].val.p, .int .i64 l[i].val.q, .string l[i].val.s, .int .i64 l[i].val.r] 31))) := Lib.hid (HB2.out.alloc HB2.out.size _)
                have QT : Hid (Calls Try.prog 20 #[.pointer (some ⟨b, 0, none⟩), .agg #[.int .i64 l[i].key.k, .int .i64 l[i].key.p, .int .i64 l[i].key.q, .string l[i].key.s, .int .i64 l[i].key.r], .agg #[.int .i64 l[i].val.k, .int .i64 l[i].val.p, .int .i64 l[i].val.q, .string l[i].val.s, .int .i64 l[i].val.r]] (w2.alloc (.cells #[.int .i64 l[i].val.k, .int .i64 l[i].val.p, .int .i64 l[i].val.q, .string l[i].val.s, .int .i64 l[i].val.r] 31)) fun e w' => e = .returned (.int .i64 (errR l[i].key l[i].val)) ∧ (∃ v' m', OmR w.heap.size b v' m' (setR R l[i].key l[i].val) w' ∧ ∀ g ∈ omS b v' m', g ∈ omS b v m ∨ (w2.alloc (.cells #[.int .i64 l[i].val.k, .int .i64 l[i].val.p, .int .i64 l[i].val.q, .string l[i].val.s, .int .i64 l[i].val.r] 31)).heap.size ≤ g) ∧ Ch (omS b v m) (w2.alloc (.cells #[.int .i64 l[i].val.k, .int .i64 l[i].val.p, .int .i64 l[i].val.q, .string l[i].val.s, .int .i64 l[i].val.r] 31)) w') := Lib.hid (set_R w.heap.size b v m R l[i].key l[i].val _ HO3.out (by omega) HB3.out.size)
                go_upto_region 14 with (go_at_call 20; (with_reducible refine (QT.out).mono ?_); rintro e w4 ⟨rfl, ⟨v', m', ho4, hf4⟩, hc4⟩)
                have HO4 := Lib.hid ho4
                have N4 : Hid (Blk 31 w2.heap.size #[.int .i64 l[i].val.k, .int .i64 l[i].val.p, .int .i64 l[i].val.q, .string l[i].val.s, .int .i64 l[i].val.r] w4) := Lib.hid (N3.out.ch hc4 (fun h => absurd (HO2.out.lt _ h).2 (Nat.lt_irrefl _)))
                have HB4 : Hid (Below w.heap.size w w4) := Lib.hid (HB3.out.trans (hc4.belowB (fun g hg => (HO3.out.lt g hg).1) HB3.out.size))
                have QS4 := Lib.hid (slots_R w.heap.size b v' m' (setR R l[i].key l[i].val) w4 HO4.out)
                have QL4 := Lib.hid (len_R w.heap.size b v' m' (setR R l[i].key l[i].val) w4 HO4.out)
                have n0 : w4.cell? ⟨w2.heap.size, 0, none⟩ = some (.int .i64 l[i].val.k) := N4.out.cell 0
                have z4 : w2.heap.size < w4.heap.size := N4.out.lt
                clear ho4 hf4 hc4 QT QS QL
                go_wp2_with (first | (go_at_call 21; (with_reducible refine (QS4.out).mono ?_); rintro e w5 ⟨rfl, rfl⟩) | (go_at_call 19; (with_reducible refine (QL4.out).mono ?_); rintro e w5 ⟨rfl, rfl⟩))
                all_goals (go_roundw; (case rel => exact ⟨i + 1, by omega, by omega, by go_num, Lib.hid ⟨v', m', _, HO4.out, HSG.out, by have := HSL.out; omega⟩, HB4⟩); (case measure => simp [intOf]; omega))
            · by_cases h0 : l[i].val.k = 0
              · have hNN := hN1 h0 hh
                clear hN1 hN2 hN3 hN4
                have hb1 : ((getR R l[i].key).k == 0) = false := beq_eq_false_iff_ne.2 hh
                have hb2 : ((getR R l[i].key).k != 0) = true := bne_iff_ne.2 hh
                have d3 : IntKind.i64.wrap ((R.length : Int) - (lenR R : Int) + 1) = (R.length : Int) - (lenR R : Int) + 1 := IntWalk.i64_in _ (by omega)
                have d4 : IntKind.i64.wrap ((lenR R : Int) - 1) = (lenR R : Int) - 1 := IntWalk.i64_in _ (by omega)
                have d5 : ((setR R l[i].key l[i].val).length : Int) - (lenR (setR R l[i].key l[i].val) : Int) = (R.length : Int) - (lenR R : Int) + 1 := by omega
                have d6 : (lenR (setR R l[i].key l[i].val) : Int) = (lenR R : Int) - 1 := by omega
                clear hNN
                have HO1 : Hid (OmR w.heap.size b v m R (wr.alloc (.cells #[.int .i64 l[i].kind, .int .i64 l[i].key.k, .int .i64 l[i].key.p, .int .i64 l[i].key.q, .string l[i].key.s, .int .i64 l[i].key.r, .int .i64 0, .int .i64 l[i].val.p, .int .i64 l[i].val.q, .string l[i].val.s, .int .i64 l[i].val.r] 33))) := Lib.hid (HO.out.ch ((Ch.refl [] wr).alloc _) (by simp))
                have K1 : Hid (Blk 33 wr.heap.size #[.int .i64 l[i].kind, .int .i64 l[i].key.k, .int .i64 l[i].key.p, .int .i64 l[i].key.q, .string l[i].key.s, .int .i64 l[i].key.r, .int .i64 0, .int .i64 l[i].val.p, .int .i64 l[i].val.q, .string l[i].val.s, .int .i64 l[i].val.r] (wr.alloc (.cells #[.int .i64 l[i].kind, .int .i64 l[i].key.k, .int .i64 l[i].key.p, .int .i64 l[i].key.q, .string l[i].key.s, .int .i64 l[i].key.r, .int .i64 0, .int .i64 l[i].val.p, .int .i64 l[i].val.q, .string l[i].val.s, .int .i64 l[i].val.r] 33))) := Lib.hid (Blk.new wr _ _ _ rfl)
                have HB1 : Hid (Below w.heap.size w (wr.alloc (.cells #[.int .i64 l[i].kind, .int .i64 l[i].key.k, .int .i64 l[i].key.p, .int .i64 l[i].key.q, .string l[i].key.s, .int .i64 l[i].key.r, .int .i64 0, .int .i64 l[i].val.p, .int .i64 l[i].val.q, .string l[i].val.s, .int .i64 l[i].val.r] 33))) := Lib.hid (HB.out.alloc HB.out.size _)
                have QG := Lib.hid (get_R w.heap.size b v m R l[i].key _ HO1.out (by omega))
                go_upto_region 9 with (go_at_call 18; (with_reducible refine (QG.out).mono ?_); rintro e w2 ⟨rfl, hb2⟩)
                have HO2 : Hid (OmR w.heap.size b v m R w2) := Lib.hid (HO1.out.ch (Ch.of_below (S := []) hb2) (by simp))
                have K2 := Lib.hid (K1.out.below hb2)
                have HB2 : Hid (Below w.heap.size w w2) := Lib.hid (HB1.out.trans (hb2.mono HB1.out.size))
                have QS := Lib.hid (slots_R w.heap.size b v m R w2 HO2.out)
                have QL := Lib.hid (len_R w.heap.size b v m R w2 HO2.out)
                clear hb2 QG
                have z2 : wr.heap.size < w2.heap.size := K2.out.lt
                have u0 : w2.cell? ⟨wr.heap.size, 0, none⟩ = some (.int .i64 l[i].kind) := K2.out.cell 0
                have u1 : w2.cell? ⟨wr.heap.size, 1, none⟩ = some (.int .i64 l[i].key.k) := K2.out.cell 1
                have u2 : w2.cell? ⟨wr.heap.size, 2, none⟩ = some (.int .i64 l[i].key.p) := K2.out.cell 2
                have u3 : w2.cell? ⟨wr.heap.size, 3, none⟩ = some (.int .i64 l[i].key.q) := K2.out.cell 3
                have u4 : w2.cell? ⟨wr.heap.size, 4, none⟩ = some (.string l[i].key.s) := K2.out.cell 4
                have u5 : w2.cell? ⟨wr.heap.size, 5, none⟩ = some (.int .i64 l[i].key.r) := K2.out.cell 5
                have u6 : w2.cell? ⟨wr.heap.size, 6, none⟩ = some (.int .i64 0) := K2.out.cell 6
                have u7 : w2.cell? ⟨wr.heap.size, 7, none⟩ = some (.int .i64 l[i].val.p) := K2.out.cell 7
                have u8 : w2.cell? ⟨wr.heap.size, 8, none⟩ = some (.int .i64 l[i].val.q) := K2.out.cell 8
                have u9 : w2.cell? ⟨wr.heap.size, 9, none⟩ = some (.string l[i].val.s) := K2.out.cell 9
                have u10 : w2.cell? ⟨wr.heap.size, 10, none⟩ = some (.int .i64 l[i].val.r) := K2.out.cell 10
                go_upto_region 13 with (first | (go_at_call 21; (with_reducible refine (QS.out).mono ?_); rintro e w3 ⟨rfl, rfl⟩) | (go_at_call 19; (with_reducible refine (QL.out).mono ?_); rintro e w3 ⟨rfl, rfl⟩))
                have HO3 : Hid (OmR w.heap.size b v m R (w2.alloc (.cells #[.int .i64 0, .int .i64 l[i].val.p, .int .i64 l[i].val.q, .string l[i].val.s, .int .i64 l[i].val.r] 31))) := Lib.hid (HO2.out.ch ((Ch.refl [] w2).alloc _) (by simp))
                have K3 : Hid (Blk 33 wr.heap.size #[.int .i64 l[i].kind, .int .i64 l[i].key.k, .int .i64 l[i].key.p, .int .i64 l[i].key.q, .string l[i].key.s, .int .i64 l[i].key.r, .int .i64 0, .int .i64 l[i].val.p, .int .i64 l[i].val.q, .string l[i].val.s, .int .i64 l[i].val.r] (w2.alloc (.cells #[.int .i64 0, .int .i64 l[i].val.p, .int .i64 l[i].val.q, .string l[i].val.s, .int .i64 l[i].val.r] 31))) := Lib.hid (K2.out.ch ((Ch.refl [] w2).alloc _) (by simp))
                have N3 : Hid (Blk 31 w2.heap.size #[.int .i64 0, .int .i64 l[i].val.p, .int .i64 l[i].val.q, .string l[i].val.s, .int .i64 l[i].val.r] (w2.alloc (.cells #[.int .i64 0, .int .i64 l[i].val.p, .int .i64 l[i].val.q, .string l[i].val.s, .int .i64 l[i].val.r] 31))) := Lib.hid (Blk.new w2 _ _ _ rfl)
                have HB3 : Hid (Below w.heap.size w (w2.alloc (.cells #[.int .i64 0, .int .i64 l[i].val.p, .int .i64 l[i].val.q, .string l[i].val.s, .int .i64 l[i].val.r] 31))) := Lib.hid (HB2.out.alloc HB2.out.size _)
                have QT : Hid (Calls Try.prog 20 #[.pointer (some ⟨b, 0, none⟩), .agg #[.int .i64 l[i].key.k, .int .i64 l[i].key.p, .int .i64 l[i].key.q, .string l[i].key.s, .int .i64 l[i].key.r], .agg #[.int .i64 0, .int .i64 l[i].val.p, .int .i64 l[i].val.q, .string l[i].val.s, .int .i64 l[i].val.r]] (w2.alloc (.cells #[.int .i64 0, .int .i64 l[i].val.p, .int .i64 l[i].val.q, .string l[i].val.s, .int .i64 l[i].val.r] 31)) fun e w' => e = .returned (.int .i64 (errR l[i].key l[i].val)) ∧ (∃ v' m', OmR w.heap.size b v' m' (setR R l[i].key l[i].val) w' ∧ ∀ g ∈ omS b v' m', g ∈ omS b v m ∨ (w2.alloc (.cells #[.int .i64 0, .int .i64 l[i].val.p, .int .i64 l[i].val.q, .string l[i].val.s, .int .i64 l[i].val.r] 31)).heap.size ≤ g) ∧ Ch (omS b v m) (w2.alloc (.cells #[.int .i64 0, .int .i64 l[i].val.p, .int .i64 l[i].val.q, .string l[i].val.s, .int .i64 l[i].val.r] 31)) w') := Lib.hid (by have := set_R w.heap.size b v m R l[i].key l[i].val _ HO3.out (by omega) HB3.out.size; rw [h0] at this; exact this)
                go_upto_region 14 with (go_at_call 20; (with_reducible refine (QT.out).mono ?_); rintro e w4 ⟨rfl, ⟨v', m', ho4, hf4⟩, hc4⟩)
                have HO4 := Lib.hid ho4
                have N4 : Hid (Blk 31 w2.heap.size #[.int .i64 0, .int .i64 l[i].val.p, .int .i64 l[i].val.q, .string l[i].val.s, .int .i64 l[i].val.r] w4) := Lib.hid (N3.out.ch hc4 (fun h => absurd (HO2.out.lt _ h).2 (Nat.lt_irrefl _)))
                have HB4 : Hid (Below w.heap.size w w4) := Lib.hid (HB3.out.trans (hc4.belowB (fun g hg => (HO3.out.lt g hg).1) HB3.out.size))
                have QS4 := Lib.hid (slots_R w.heap.size b v' m' (setR R l[i].key l[i].val) w4 HO4.out)
                have QL4 := Lib.hid (len_R w.heap.size b v' m' (setR R l[i].key l[i].val) w4 HO4.out)
                have n0 : w4.cell? ⟨w2.heap.size, 0, none⟩ = some (.int .i64 0) := N4.out.cell 0
                have z4 : w2.heap.size < w4.heap.size := N4.out.lt
                clear ho4 hf4 hc4 QT QS QL
                go_wp2_with (first | (go_at_call 21; (with_reducible refine (QS4.out).mono ?_); rintro e w5 ⟨rfl, rfl⟩) | (go_at_call 19; (with_reducible refine (QL4.out).mono ?_); rintro e w5 ⟨rfl, rfl⟩))
                all_goals (go_roundw; (case rel => exact ⟨i + 1, by omega, by omega, by go_num, Lib.hid ⟨v', m', _, HO4.out, HSG.out, by have := HSL.out; omega⟩, HB4⟩); (case measure => simp [intOf]; omega))
              · have hNN := hN3 h0 hh
                clear hN1 hN2 hN3 hN4
                have hb1 : ((getR R l[i].key).k == 0) = false := beq_eq_false_iff_ne.2 hh
                have hb2 : ((getR R l[i].key).k != 0) = true := bne_iff_ne.2 hh
                have hb3 : (l[i].val.k == 0) = false := beq_eq_false_iff_ne.2 h0
                have d5 : ((setR R l[i].key l[i].val).length : Int) - (lenR (setR R l[i].key l[i].val) : Int) = (R.length : Int) - (lenR R : Int) := by omega
                have d6 : (lenR (setR R l[i].key l[i].val) : Int) = (lenR R : Int) := by omega
                clear hNN
                have HO1 : Hid (OmR w.heap.size b v m R (wr.alloc (.cells #[.int .i64 l[i].kind, .int .i64 l[i].key.k, .int .i64 l[i].key.p, .int .i64 l[i].key.q, .string l[i].key.s, .int .i64 l[i].key.r, .int .i64 l[i].val.k, .int .i64 l[i].val.p, .int .i64 l[i].val.q, .string l[i].val.s, .int .i64 l[i].val.r] 33))) := Lib.hid (HO.out.ch ((Ch.refl [] wr).alloc _) (by simp))
                have K1 : Hid (Blk 33 wr.heap.size #[.int .i64 l[i].kind, .int .i64 l[i].key.k, .int .i64 l[i].key.p, .int .i64 l[i].key.q, .string l[i].key.s, .int .i64 l[i].key.r, .int .i64 l[i].val.k, .int .i64 l[i].val.p, .int .i64 l[i].val.q, .string l[i].val.s, .int .i64 l[i].val.r] (wr.alloc (.cells #[.int .i64 l[i].kind, .int .i64 l[i].key.k, .int .i64 l[i].key.p, .int .i64 l[i].key.q, .string l[i].key.s, .int .i64 l[i].key.r, .int .i64 l[i].val.k, .int .i64 l[i].val.p, .int .i64 l[i].val.q, .string l[i].val.s, .int .i64 l[i].val.r] 33))) := Lib.hid (Blk.new wr _ _ _ rfl)
                have HB1 : Hid (Below w.heap.size w (wr.alloc (.cells #[.int .i64 l[i].kind, .int .i64 l[i].key.k, .int .i64 l[i].key.p, .int .i64 l[i].key.q, .string l[i].key.s, .int .i64 l[i].key.r, .int .i64 l[i].val.k, .int .i64 l[i].val.p, .int .i64 l[i].val.q, .string l[i].val.s, .int .i64 l[i].val.r] 33))) := Lib.hid (HB.out.alloc HB.out.size _)
                have QG := Lib.hid (get_R w.heap.size b v m R l[i].key _ HO1.out (by omega))
                go_upto_region 9 with (go_at_call 18; (with_reducible refine (QG.out).mono ?_); rintro e w2 ⟨rfl, hb2⟩)
                have HO2 : Hid (OmR w.heap.size b v m R w2) := Lib.hid (HO1.out.ch (Ch.of_below (S := []) hb2) (by simp))
                have K2 := Lib.hid (K1.out.below hb2)
                have HB2 : Hid (Below w.heap.size w w2) := Lib.hid (HB1.out.trans (hb2.mono HB1.out.size))
                have QS := Lib.hid (slots_R w.heap.size b v m R w2 HO2.out)
                have QL := Lib.hid (len_R w.heap.size b v m R w2 HO2.out)
                clear hb2 QG
                have z2 : wr.heap.size < w2.heap.size := K2.out.lt
                have u0 : w2.cell? ⟨wr.heap.size, 0, none⟩ = some (.int .i64 l[i].kind) := K2.out.cell 0
                have u1 : w2.cell? ⟨wr.heap.size, 1, none⟩ = some (.int .i64 l[i].key.k) := K2.out.cell 1
                have u2 : w2.cell? ⟨wr.heap.size, 2, none⟩ = some (.int .i64 l[i].key.p) := K2.out.cell 2
                have u3 : w2.cell? ⟨wr.heap.size, 3, none⟩ = some (.int .i64 l[i].key.q) := K2.out.cell 3
                have u4 : w2.cell? ⟨wr.heap.size, 4, none⟩ = some (.string l[i].key.s) := K2.out.cell 4
                have u5 : w2.cell? ⟨wr.heap.size, 5, none⟩ = some (.int .i64 l[i].key.r) := K2.out.cell 5
                have u6 : w2.cell? ⟨wr.heap.size, 6, none⟩ = some (.int .i64 l[i].val.k) := K2.out.cell 6
                have u7 : w2.cell? ⟨wr.heap.size, 7, none⟩ = some (.int .i64 l[i].val.p) := K2.out.cell 7
                have u8 : w2.cell? ⟨wr.heap.size, 8, none⟩ = some (.int .i64 l[i].val.q) := K2.out.cell 8
                have u9 : w2.cell? ⟨wr.heap.size, 9, none⟩ = some (.string l[i].val.s) := K2.out.cell 9
                have u10 : w2.cell? ⟨wr.heap.size, 10, none⟩ = some (.int .i64 l[i].val.r) := K2.out.cell 10
                go_upto_region 13 with (first | (go_at_call 21; (with_reducible refine (QS.out).mono ?_); rintro e w3 ⟨rfl, rfl⟩) | (go_at_call 19; (with_reducible refine (QL.out).mono ?_); rintro e w3 ⟨rfl, rfl⟩))
                have HO3 : Hid (OmR w.heap.size b v m R (w2.alloc (.cells #[.int .i64 l[i].val.k, .int .i64 l[i].val.p, .int .i64 l[i].val.q, .string l[i].val.s, .int .i64 l[i].val.r] 31))) := Lib.hid (HO2.out.ch ((Ch.refl [] w2).alloc _) (by simp))
                have K3 : Hid (Blk 33 wr.heap.size #[.int .i64 l[i].kind, .int .i64 l[i].key.k, .int .i64 l[i].key.p, .int .i64 l[i].key.q, .string l[i].key.s, .int .i64 l[i].key.r, .int .i64 l[i].val.k, .int .i64 l[i].val.p, .int .i64 l[i].val.q, .string l[i].val.s, .int .i64 l[i].val.r] (w2.alloc (.cells #[.int .i64 l[i].val.k, .int .i64 l[i].val.p, .int .i64 l[i].val.q, .string l[i].val.s, .int .i64 l[i].val.r] 31))) := Lib.hid (K2.out.ch ((Ch.refl [] w2).alloc _) (by simp))
                have N3 : Hid (Blk 31 w2.heap.size #[.int .i64 l[i].val.k, .int .i64 l[i].val.p, .int .i64 l[i].val.q, .string l[i].val.s, .int .i64 l[i].val.r] (w2.alloc (.cells #[.int .i64 l[i].val.k, .int .i64 l[i].val.p, .int .i64 l[i].val.q, .string l[i].val.s, .int .i64 l[i].val.r] 31))) := Lib.hid (Blk.new w2 _ _ _ rfl)
                have HB3 : Hid (Below w.heap.size w (w2.alloc (.cells #[.int .i64 l[i].val.k, .int .i64 l[i].val.p, .int .i64 l[i].val.q, .string l[i].val.s, .int .i64 l[i].val.r] 31))) := Lib.hid (HB2.out.alloc HB2.out.size _)
                have QT : Hid (Calls Try.prog 20 #[.pointer (some ⟨b, 0, none⟩), .agg #[.int .i64 l[i].key.k, .int .i64 l[i].key.p, .int .i64 l[i].key.q, .string l[i].key.s, .int .i64 l[i].key.r], .agg #[.int .i64 l[i].val.k, .int .i64 l[i].val.p, .int .i64 l[i].val.q, .string l[i].val.s, .int .i64 l[i].val.r]] (w2.alloc (.cells #[.int .i64 l[i].val.k, .int .i64 l[i].val.p, .int .i64 l[i].val.q, .string l[i].val.s, .int .i64 l[i].val.r] 31)) fun e w' => e = .returned (.int .i64 (errR l[i].key l[i].val)) ∧ (∃ v' m', OmR w.heap.size b v' m' (setR R l[i].key l[i].val) w' ∧ ∀ g ∈ omS b v' m', g ∈ omS b v m ∨ (w2.alloc (.cells #[.int .i64 l[i].val.k, .int .i64 l[i].val.p, .int .i64 l[i].val.q, .string l[i].val.s, .int .i64 l[i].val.r] 31)).heap.size ≤ g) ∧ Ch (omS b v m) (w2.alloc (.cells #[.int .i64 l[i].val.k, .int .i64 l[i].val.p, .int .i64 l[i].val.q, .string l[i].val.s, .int .i64 l[i].val.r] 31)) w') := Lib.hid (set_R w.heap.size b v m R l[i].key l[i].val _ HO3.out (by omega) HB3.out.size)
                go_upto_region 14 with (go_at_call 20; (with_reducible refine (QT.out).mono ?_); rintro e w4 ⟨rfl, ⟨v', m', ho4, hf4⟩, hc4⟩)
                have HO4 := Lib.hid ho4
                have N4 : Hid (Blk 31 w2.heap.size #[.int .i64 l[i].val.k, .int .i64 l[i].val.p, .int .i64 l[i].val.q, .string l[i].val.s, .int .i64 l[i].val.r] w4) := Lib.hid (N3.out.ch hc4 (fun h => absurd (HO2.out.lt _ h).2 (Nat.lt_irrefl _)))
                have HB4 : Hid (Below w.heap.size w w4) := Lib.hid (HB3.out.trans (hc4.belowB (fun g hg => (HO3.out.lt g hg).1) HB3.out.size))
                have QS4 := Lib.hid (slots_R w.heap.size b v' m' (setR R l[i].key l[i].val) w4 HO4.out)
                have QL4 := Lib.hid (len_R w.heap.size b v' m' (setR R l[i].key l[i].val) w4 HO4.out)
                have n0 : w4.cell? ⟨w2.heap.size, 0, none⟩ = some (.int .i64 l[i].val.k) := N4.out.cell 0
                have z4 : w2.heap.size < w4.heap.size := N4.out.lt
                clear ho4 hf4 hc4 QT QS QL
                go_wp2_with (first | (go_at_call 21; (with_reducible refine (QS4.out).mono ?_); rintro e w5 ⟨rfl, rfl⟩) | (go_at_call 19; (with_reducible refine (QL4.out).mono ?_); rintro e w5 ⟨rfl, rfl⟩))
                all_goals (go_roundw; (case rel => exact ⟨i + 1, by omega, by omega, by go_num, Lib.hid ⟨v', m', _, HO4.out, HSG.out, by have := HSL.out; omega⟩, HB4⟩); (case measure => simp [intOf]; omega))
          · have HO1 : Hid (OmR w.heap.size b v m R (wr.alloc (.cells #[.int .i64 l[i].kind, .int .i64 l[i].key.k, .int .i64 l[i].key.p, .int .i64 l[i].key.q, .string l[i].key.s, .int .i64 l[i].key.r, .int .i64 l[i].val.k, .int .i64 l[i].val.p, .int .i64 l[i].val.q, .string l[i].val.s, .int .i64 l[i].val.r] 33))) := Lib.hid (HO.out.ch ((Ch.refl [] wr).alloc _) (by simp))
            have K1 : Hid (Blk 33 wr.heap.size #[.int .i64 l[i].kind, .int .i64 l[i].key.k, .int .i64 l[i].key.p, .int .i64 l[i].key.q, .string l[i].key.s, .int .i64 l[i].key.r, .int .i64 l[i].val.k, .int .i64 l[i].val.p, .int .i64 l[i].val.q, .string l[i].val.s, .int .i64 l[i].val.r] (wr.alloc (.cells #[.int .i64 l[i].kind, .int .i64 l[i].key.k, .int .i64 l[i].key.p, .int .i64 l[i].key.q, .string l[i].key.s, .int .i64 l[i].key.r, .int .i64 l[i].val.k, .int .i64 l[i].val.p, .int .i64 l[i].val.q, .string l[i].val.s, .int .i64 l[i].val.r] 33))) := Lib.hid (Blk.new wr _ _ _ rfl)
            have HB1 : Hid (Below w.heap.size w (wr.alloc (.cells #[.int .i64 l[i].kind, .int .i64 l[i].key.k, .int .i64 l[i].key.p, .int .i64 l[i].key.q, .string l[i].key.s, .int .i64 l[i].key.r, .int .i64 l[i].val.k, .int .i64 l[i].val.p, .int .i64 l[i].val.q, .string l[i].val.s, .int .i64 l[i].val.r] 33))) := Lib.hid (HB.out.alloc HB.out.size _)
            have QG := Lib.hid (get_R w.heap.size b v m R l[i].key _ HO1.out (by omega))
            go_upto_region 9 with (go_at_call 18; (with_reducible refine (QG.out).mono ?_); rintro e w2 ⟨rfl, hb2⟩)
            have HO2 : Hid (OmR w.heap.size b v m R w2) := Lib.hid (HO1.out.ch (Ch.of_below (S := []) hb2) (by simp))
            have K2 := Lib.hid (K1.out.below hb2)
            have HB2 : Hid (Below w.heap.size w w2) := Lib.hid (HB1.out.trans (hb2.mono HB1.out.size))
            have QS := Lib.hid (slots_R w.heap.size b v m R w2 HO2.out)
            have QL := Lib.hid (len_R w.heap.size b v m R w2 HO2.out)
            clear hb2 QG
            have z2 : wr.heap.size < w2.heap.size := K2.out.lt
            have u0 : w2.cell? ⟨wr.heap.size, 0, none⟩ = some (.int .i64 l[i].kind) := K2.out.cell 0
            have u1 : w2.cell? ⟨wr.heap.size, 1, none⟩ = some (.int .i64 l[i].key.k) := K2.out.cell 1
            have u2 : w2.cell? ⟨wr.heap.size, 2, none⟩ = some (.int .i64 l[i].key.p) := K2.out.cell 2
            have u3 : w2.cell? ⟨wr.heap.size, 3, none⟩ = some (.int .i64 l[i].key.q) := K2.out.cell 3
            have u4 : w2.cell? ⟨wr.heap.size, 4, none⟩ = some (.string l[i].key.s) := K2.out.cell 4
            have u5 : w2.cell? ⟨wr.heap.size, 5, none⟩ = some (.int .i64 l[i].key.r) := K2.out.cell 5
            have u6 : w2.cell? ⟨wr.heap.size, 6, none⟩ = some (.int .i64 l[i].val.k) := K2.out.cell 6
            have u7 : w2.cell? ⟨wr.heap.size, 7, none⟩ = some (.int .i64 l[i].val.p) := K2.out.cell 7
            have u8 : w2.cell? ⟨wr.heap.size, 8, none⟩ = some (.int .i64 l[i].val.q) := K2.out.cell 8
            have u9 : w2.cell? ⟨wr.heap.size, 9, none⟩ = some (.string l[i].val.s) := K2.out.cell 9
            have u10 : w2.cell? ⟨wr.heap.size, 10, none⟩ = some (.int .i64 l[i].val.r) := K2.out.cell 10
            go_upto_region 13 with (first | (go_at_call 21; (with_reducible refine (QS.out).mono ?_); rintro e w3 ⟨rfl, rfl⟩) | (go_at_call 19; (with_reducible refine (QL.out).mono ?_); rintro e w3 ⟨rfl, rfl⟩))
            have HO3 : Hid (OmR w.heap.size b v m R (w2.alloc (.cells #[.int .i64 l[i].val.k, .int .i64 l[i].val.p, .int .i64 l[i].val.q, .string l[i].val.s, .int .i64 l[i].val.r] 31))) := Lib.hid (HO2.out.ch ((Ch.refl [] w2).alloc _) (by simp))
            have K3 : Hid (Blk 33 wr.heap.size #[.int .i64 l[i].kind, .int .i64 l[i].key.k, .int .i64 l[i].key.p, .int .i64 l[i].key.q, .string l[i].key.s, .int .i64 l[i].key.r, .int .i64 l[i].val.k, .int .i64 l[i].val.p, .int .i64 l[i].val.q, .string l[i].val.s, .int .i64 l[i].val.r] (w2.alloc (.cells #[.int .i64 l[i].val.k, .int .i64 l[i].val.p, .int .i64 l[i].val.q, .string l[i].val.s, .int .i64 l[i].val.r] 31))) := Lib.hid (K2.out.ch ((Ch.refl [] w2).alloc _) (by simp))
            have N3 : Hid (Blk 31 w2.heap.size #[.int .i64 l[i].val.k, .int .i64 l[i].val.p, .int .i64 l[i].val.q, .string l[i].val.s, .int .i64 l[i].val.r] (w2.alloc (.cells #[.int .i64 l[i].val.k, .int .i64 l[i].val.p, .int .i64 l[i].val.q, .string l[i].val.s, .int .i64 l[i].val.r] 31))) := Lib.hid (Blk.new w2 _ _ _ rfl)
            have HB3 : Hid (Below w.heap.size w (w2.alloc (.cells #[.int .i64 l[i].val.k, .int .i64 l[i].val.p, .int .i64 l[i].val.q, .string l[i].val.s, .int .i64 l[i].val.r] 31))) := Lib.hid (HB2.out.alloc HB2.out.size _)
            have QT : Hid (Calls Try.prog 20 #[.pointer (some ⟨b, 0, none⟩), .agg #[.int .i64 l[i].key.k, .int .i64 l[i].key.p, .int .i64 l[i].key.q, .string l[i].key.s, .int .i64 l[i].key.r], .agg #[.int .i64 l[i].val.k, .int .i64 l[i].val.p, .int .i64 l[i].val.q, .string l[i].val.s, .int .i64 l[i].val.r]] (w2.alloc (.cells #[.int .i64 l[i].val.k, .int .i64 l[i].val.p, .int .i64 l[i].val.q, .string l[i].val.s, .int .i64 l[i].val.r] 31)) fun e w' => e = .returned (.int .i64 (errR l[i].key l[i].val)) ∧ (∃ v' m', OmR w.heap.size b v' m' (setR R l[i].key l[i].val) w' ∧ ∀ g ∈ omS b v' m', g ∈ omS b v m ∨ (w2.alloc (.cells #[.int .i64 l[i].val.k, .int .i64 l[i].val.p, .int .i64 l[i].val.q, .string l[i].val.s, .int .i64 l[i].val.r] 31)).heap.size ≤ g) ∧ Ch (omS b v m) (w2.alloc (.cells #[.int .i64 l[i].val.k, .int .i64 l[i].val.p, .int .i64 l[i].val.q, .string l[i].val.s, .int .i64 l[i].val.r] 31)) w') := Lib.hid (set_R w.heap.size b v m R l[i].key l[i].val _ HO3.out (by omega) HB3.out.size)
            go_wp2_with (go_at_call 20; (with_reducible refine (QT.out).mono ?_); rintro e w4 ⟨rfl, ⟨v', m', ho4, hf4⟩, hc4⟩)
            rw [setR_err he] at ho4
            go_roundw
            case rel => exact ⟨i + 1, by omega, by omega, by go_num, Lib.hid ⟨v', m', R, ho4, HG.out, by have := HR.out; omega⟩, Lib.hid (HB3.out.trans (hc4.belowB (fun g hg => (HO3.out.lt g hg).1) HB3.out.size))⟩
            case measure => simp [intOf]; omega

      · have hl4' : ¬ (i : Int) < 400 := by omega
        have QV := Lib.hid (lives_any wr)
        go_wp2_with (go_at_call 14; (with_reducible refine (QV.out).mono ?_); rintro e w8 ⟨rfl, hb8⟩)
        go_ret
        exact ⟨rfl, HB.out.trans (hb8.mono HB.out.size)⟩
    · have hlt' : ¬ (i : Int) < (l.length : Int) := by omega
      have QV := Lib.hid (lives_any wr)
      go_wp2_with (go_at_call 14; (with_reducible refine (QV.out).mono ?_); rintro e w8 ⟨rfl, hb8⟩)
      go_ret
      exact ⟨rfl, HB.out.trans (hb8.mono HB.out.size)⟩

end Go.Proofs.Ytcbbfjcgmmbcpaa.orderedDropsLaw
