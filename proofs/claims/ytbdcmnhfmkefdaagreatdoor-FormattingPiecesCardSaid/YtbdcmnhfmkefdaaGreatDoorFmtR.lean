/- The laws of layer 9: the reference's padding. -/
import Derived.Test.YtbdcmnhfmkefdaaGreatDoorFmtY
import Derived.Laws.IdiomStrings
namespace Go.Proofs.YtbdcmnhfmkefdaaGreatDoor
open Go.RowKit Go.Joins M1 M2 M9
set_option linter.unusedVariables false
/-- A row of bytes of the call's own. -/
abbrev OwU (base : Nat) (w : World) (v : Value) (l : List UInt8) : Prop := w.ownsRow base 5 1 v l.length (Lib.byteCells l)
theorem owU_str {base : Nat} {w : World} {v : Value} {l : List UInt8} (h : OwU base w v l) : (convert 56 9 v).run Tryz.prog w = .ok (.string (bq l)) w := by
  rcases ownsRow_forms h with ⟨e, h0⟩ | ⟨g, cap, e⟩
  · have hl : l = [] := List.length_eq_zero_iff.1 h0
    subst e hl
    exact run_convert_bytes_nil (P := Tryz.prog) w 56 5 Tryz.underlying56 Tryz.underlying5 0 0 9 Tryz.underlying9
  · subst e
    refine run_convert_bytes_back (P := Tryz.prog) w 56 9 5 ⟨g, 0, none⟩ cap l Tryz.underlying56 Tryz.underlying5 Tryz.underlying9 (fun j hj => ?_)
    exact World.ownsRow.cells h rfl j _ (by simp [Lib.byteCells, hj])
theorem owU_add {base : Nat} {w' : World} {v : Value} {l : List UInt8} {x : UInt8} (h : w'.ownsRow base 5 1 v (l.length + 1) (Lib.byteCells l ++ [.int .u8 (x.toNat : Int)])) : OwU base w' v (l ++ [x]) := by
  unfold OwU
  rw [List.length_append, show Lib.byteCells (l ++ [x]) = Lib.byteCells l ++ [.int .u8 (x.toNat : Int)] by simp [Lib.byteCells]]
  exact h
set_option maxHeartbeats 4000000 in
theorem rpad9 (s : ByteArray) (n : Int) (mi : Bool) (w : World) (hs : s.size ≤ 10000000) :
    Calls Tryz.prog 18 #[.string s, .int .i64 n, .bool mi] w fun e w' => e = .returned (.string (bq (padF s.data.toList n mi))) ∧ Below w.heap.size w w' := by
  obtain ⟨i0, hi, hz0, hz1, hz2⟩ := info_parts rd_byte
  obtain ⟨d, hd⟩ : ∃ d : Int, min (max n 0) 99 - (s.size : Int) = d := ⟨_, rfl⟩
  have hm : (missF s.size n : Int) = max 0 d := by unfold missF; omega
  have hml := missF_le s.size n
  have hll : s.data.toList.length = s.size := by simp
  have HP : Hid (∀ z, z = List.replicate (missF s.size n) (32 : UInt8) → bq (padF s.data.toList n mi) = if mi = true then s ++ bq z else bq z ++ s) := Lib.hid (by
    intro z hz
    subst hz
    unfold padF
    rw [hll]
    have e1 : s ++ bq (List.replicate (missF s.size n) 32) = bq (s.data.toList ++ List.replicate (missF s.size n) 32) := by rw [← bq_app, bq_eta]
    have e2 : bq (List.replicate (missF s.size n) 32) ++ s = bq (List.replicate (missF s.size n) 32 ++ s.data.toList) := by rw [← bq_app, bq_eta]
    rw [e1, e2]
    split <;> rfl)
  generalize bq (padF s.data.toList n mi) = R at *
  generalize missF s.size n = m at *
  have HM := Lib.hid hm
  have hd1 : -10000000 ≤ d := by omega
  have hd2 : d ≤ 99 := by omega
  have HD := Lib.hid hd
  have b1 : -10000000 ≤ min (max n 0) 99 - (s.size : Int) := by omega
  have b2 : min (max n 0) 99 - (s.size : Int) ≤ 99 := by omega
  clear hm hll
  go_enter Tryz.func18, Tryz.ntmps18
  go_wp2
  try rw [hd]
  clear hd b1 b2
  go_loopw [8, 9] (fun v8 v9 wr => ∃ k : Nat, k ≤ m ∧ v9 = .int .i64 (k : Int) ∧ Hid (OwU w.heap.size wr v8 (List.replicate k 32)) ∧ Hid (Below w.heap.size w wr)) (fun _ v9 _ => m - (intOf v9).toNat)
  case atStart => exact ⟨0, Nat.zero_le _, rfl, Lib.hid (World.ownsRow_nil _ _ _ _), Lib.hid (Below.refl _ _)⟩
  case round =>
    obtain ⟨k, hk, rfl, HO, HB⟩ := hrel
    rename World => W0
    rename_i v8
    have hz := HB.out.size
    by_cases hlt : k < m
    · have hlt' : (k : Int) < d := by have := HM.out; omega
      have HOA := Lib.hid fun o => ((Ch.refl [] W0).alloc o).ownB HO.out (by simp)
      have hlen : (List.replicate k (32 : UInt8)).length = k := List.length_replicate
      go_wp2_with (at_builtin; refine wpList_append_own _ rfl _ _ 56 rfl w.heap.size 5 i0 (.int .u8 0) 1 1 Tryz.underlying56 hi hz0 hz1 hz2 rfl (by decide) _ _ _ rfl (HOA.out _) ⟨W0.heap.size, 0, none⟩ 1 1 [.int .u8 32] rfl rfl (by intro j u' hj; match j, hj with | 0, hj => (simp at hj; subst hj; simp [Addr.add])) (by intro u' hu'; simp at hu'; subst hu'; rfl) (by unfold maxLen; omega) (by omega) (by simp; omega) ?_)
      intro v2 w2 hown2 hgrow _
      have HN : Hid (OwU w.heap.size w2 v2 (List.replicate (k + 1) 32)) := Lib.hid (by rw [List.replicate_succ']; exact owU_add (x := 32) (by rw [List.length_replicate]; exact hown2))
      have HBN := Lib.hid ((HB.out.alloc (by omega) _).grown hgrow (by simp; omega) (fun k e => (World.ownsRow.lt HO.out k e).1))
      clear hown2 hgrow hlen
      go_wp2
      go_roundw
      case rel => exact ⟨k + 1, by omega, by go_num, HN, HBN⟩
      case measure => simp [intOf]; omega
    · have hke : k = m := by omega
      have hlt' : ¬ (k : Int) < d := by have := HM.out; omega
      have hcv := owU_str HO.out
      have HX := Lib.hid (HP.out (List.replicate k 32) (by rw [hke]))
      have hzs : (bq (List.replicate k (32 : UInt8))).size ≤ 99 := by rw [bq_size, List.length_replicate]; omega
      generalize bq (List.replicate k (32 : UInt8)) = z at *
      clear hke
      cases mi with
      | true =>
        have HX2 := Lib.hid (HX.out.trans (if_pos rfl))
        go_wp2
        go_ret
        exact ⟨by rw [HX2.out]; rfl, HB.out⟩
      | false =>
        have HX2 := Lib.hid (HX.out.trans (if_neg (by decide)))
        go_wp2
        go_ret
        exact ⟨by rw [HX2.out]; rfl, HB.out⟩
end Go.Proofs.YtbdcmnhfmkefdaaGreatDoor
