/- Contracts of layer 3: literals that are written, whole. -/
import Derived.Test.YtbcbddglgfakpaaDoorLexN
namespace Go.Proofs.YtbcbddglgfakpaaDoor
open Go.RowKit Go.Joins M3
set_option linter.unusedVariables false
theorem bl_new (w : World) : Bl w.heap.size w.heap.size [] (w.alloc (.cells #[.pointer none, .slice none 0 0] 44)) :=
  .inl ⟨Nat.le_refl _, .slice none 0 0, heap_alloc_new w _, World.ownsRow_nil _ _ _ _, by simp [Value.ownBlock]⟩
theorem blS (B b : Nat) (l : List UInt8) (w : World) (h : Bl B b l w) (hB : B ≤ w.heap.size) :
    Calls Tryd.prog 28 #[(.pointer (some ⟨b, 0, none⟩))] w fun e w' => e = .returned (.string (bs l)) ∧ Below B w w' := Tryd.Builder_String_any B b l w h hB
theorem flat_len (l : List UInt8) (k : Nat) : ((l.take k).flatMap qb).length ≤ 4 * k := by
  have h := qt_len (l.take k)
  rw [List.length_take] at h
  omega
theorem flat_step {l : List UInt8} {k : Nat} (hk : k < l.length) : (l.take (k + 1)).flatMap qb = (l.take k).flatMap qb ++ qb l[k] := by
  rw [List.take_succ_eq_append_getElem hk, List.flatMap_append]; simp
set_option maxHeartbeats 2000000 in
theorem quote_any (s : ByteArray) (w : World) (hs : s.size ≤ 100000) :
    Calls Tryd.prog 17 #[.string s] w fun e w' => e = .returned (.string (bs (qt s.data.toList))) ∧ Below w.heap.size w w' := by
  have hll : s.data.toList.length = s.size := by simp
  have h0 := bl_new w
  have hb0 : Below w.heap.size w (w.alloc (.cells #[.pointer none, .slice none 0 0] 44)) := (Below.refl _ _).alloc (Nat.le_refl _) _
  go_enter Tryd.func17, Tryd.ntmps17
  go_wp2_with fail
  refine (blb w.heap.size w.heap.size [] 34 34 rfl _ h0 (by simp) hb0.size).mono ?_
  rintro e w1 ⟨rfl, h1, hb1⟩
  have HB1 := Lib.hid (hb0.trans hb1)
  have H1 := Lib.hid h1
  have hz1 := (hb0.trans hb1).size
  clear h0 hb0 h1 hb1
  go_wp2
  go_loopw [8] (fun v8 wr => ∃ k : Nat, k ≤ s.size ∧ v8 = .int .i64 (k : Int) ∧ Hid (Bl w.heap.size w.heap.size (34 :: (s.data.toList.take k).flatMap qb) wr) ∧ Hid (Below w.heap.size w wr)) (fun v8 _ => s.size - (intOf v8).toNat)
  case atStart => exact ⟨0, Nat.zero_le _, rfl, Lib.hid (by simpa using H1.out), HB1⟩
  case round =>
    obtain ⟨k, hk, rfl, HK, HB⟩ := hrel
    rename World => W0
    have hz0 := HB.out.size
    have hfl := flat_len s.data.toList k
    by_cases hlt : k < s.size
    · have hlt' : (k : Int) < (s.size : Int) := by omega
      have hcb := byte_bd3 s[k]
      have Q1 := Lib.hid (quoteByte_any w.heap.size w.heap.size _ s[k] W0 HK.out (by simp only [List.length_cons]; omega) hz0)
      have HST : Hid ((34 : UInt8) :: (s.data.toList.take (k + 1)).flatMap qb = (34 :: (s.data.toList.take k).flatMap qb) ++ qb s[k]) := Lib.hid (by
        rw [flat_step (by omega)]; simp; rfl)
      clear hfl
      go_wp2_with (go_at_call 37; (with_reducible refine (Q1.out).mono ?_); rintro e w2 ⟨rfl, h2, hb2⟩)
      go_roundw
      case rel => exact ⟨k + 1, by omega, by go_num, Lib.hid (by rw [HST.out]; exact h2), Lib.hid (HB.out.trans hb2)⟩
      case measure => simp [intOf]; omega
    · have hk2 : k = s.size := by omega
      have hlt' : ¬ (k : Int) < (s.size : Int) := by omega
      have H5 : Hid (Bl w.heap.size w.heap.size (34 :: s.data.toList.flatMap qb) W0) := Lib.hid (by have := HK.out; rw [hk2, ← hll, List.take_length] at this; exact this)
      have hfl2 := qt_len s.data.toList
      have W1 := Lib.hid (blb w.heap.size w.heap.size (34 :: s.data.toList.flatMap qb) 34 34 rfl W0 H5.out (by simp only [List.length_cons]; omega) hz0)
      clear hk2 hfl hfl2
      go_wp2_with fail
      refine (W1.out).mono ?_
      rintro e w2 ⟨rfl, h2, hb2⟩
      have hz2 := hb2.size
      go_wp2_with fail
      refine (blS w.heap.size w.heap.size _ w2 h2 (by omega)).mono ?_
      rintro e w3 ⟨rfl, hb3⟩
      go_wp2
      go_ret
      exact ⟨rfl, HB.out.trans (hb2.trans hb3)⟩
end Go.Proofs.YtbcbddglgfakpaaDoor
