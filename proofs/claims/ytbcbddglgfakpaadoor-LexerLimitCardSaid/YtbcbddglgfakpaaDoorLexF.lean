/- Contracts of layer 3: symbols that are read. -/
import Derived.Test.YtbcbddglgfakpaaDoorLexD
import Derived.Test.YtbcbddglgfakpaaDoorLexE
namespace Go.Proofs.YtbcbddglgfakpaaDoor
open Go.RowKit M3
set_option linter.unusedVariables false
def symE (l : List UInt8) : Int := if symN l = 0 then 4 else 0

set_option maxHeartbeats 4000000 in
theorem symbol_any (b : Nat) (s : ByteArray) (at' ln : Nat) (w : World) (hs : s.size ≤ 4000000000) (ha : at' ≤ s.size) (hSc : Sc b s at' ln w) :
    Calls Tryd.prog 51 #[.pointer (some ⟨b, 0, none⟩)] w fun e w' => e = .returned (.tuple #[.string (bs ((s.data.toList.drop at').take (symN (s.data.toList.drop at')))), .int .i64 (symE (s.data.toList.drop at'))]) ∧ Sc b s (at' + symN (s.data.toList.drop at')) ln w' ∧ w.grownBy w' (some b) := by
  have k0 := hSc.c0
  have k1 := hSc.c1
  have ha' : (at' : Int) ≤ (s.size : Int) := by omega
  have hll : s.data.toList.length = s.size := by simp
  have hx : (s.extract at' s.size).data.toList = s.data.toList.drop at' := by rw [ext_bs, bs_list, List.take_of_length_le (by rw [List.length_drop, hll]; exact Nat.le_refl _)]
  have hxs : (s.extract at' s.size).size = (s.data.toList.drop at').length := by rw [← hx]; simp
  have HX := Lib.hid hx
  clear hx
  obtain ⟨l, hl⟩ : ∃ l, s.data.toList.drop at' = l := ⟨_, rfl⟩
  rw [hl] at hxs HX ⊢
  have hls : l.length + at' = s.size := by rw [← hl, List.length_drop, hll]; omega
  clear hl hll
  go_enter Tryd.func51, Tryd.ntmps51
  go_wp2
  go_quiet (fail)
  have HS0 := Lib.hid (hSc.drewN nq)
  have HG0 := Lib.hid (grow_drewN (World.grownBy.refl w (some b)) nq)
  generalize w.drewN nq = W0 at *
  clear k0 k1
  generalize s.extract at' s.size = x at *
  have hmin : (min (3 : Int) (x.size : Int)) = ((min 3 l.length : Nat) : Int) := by rw [hxs]; omega
  have hmin3 : (min (3 : Int) (l.length : Int)) = ((min 3 l.length : Nat) : Int) := by omega
  have hmin4 : (if (l.length : Int) < 3 then (l.length : Int) else 3) = ((min 3 l.length : Nat) : Int) := by split <;> omega
  have hmin2 : (if (x.size : Int) < 3 then (x.size : Int) else 3) = ((min 3 l.length : Nat) : Int) := by rw [hxs]; split <;> omega
  have hNle : min 3 l.length ≤ l.length := Nat.min_le_right _ _
  have HSN : Hid (symN l = symD l (min 3 l.length)) := Lib.hid rfl
  generalize min 3 l.length = N at *
  go_wp2
  go_loop [5] (fun v5 => ∃ j : Nat, j ≤ N ∧ v5 = .int .i64 (j : Int) ∧ Hid (symN l = symD l j)) (fun v5 => (intOf v5).toNat)
  case atStart => exact ⟨N, Nat.le_refl _, rfl, HSN⟩
  case round =>
    obtain ⟨j, hj, rfl, HD⟩ := hrel
    clear hmin hmin2 hmin3 hmin4
    by_cases hj0 : 0 < j
    · have hj0' : 0 < (j : Int) := by omega
      have hjx : (j : Int) ≤ (x.size : Int) := by rw [hxs]; omega
      have I0 := fun w => isSymbol_any (x.extract 0 j) w
      have hxj : (x.extract 0 j).data.toList = l.take j := by rw [ext_bs, bs_list, HX.out]; simp
      rw [hxj] at I0
      have k0 := HS0.out.c0
      have k1 := HS0.out.c1
      have f1 := HS0.out.fz 1
      cases hp : sym (l.take j) with
      | true =>
        rw [hp] at I0
        have I1 := Lib.hid I0
        have hn := symD_yes hj0 hp
        rw [← HD.out] at hn
        have HR : Hid (Ending.returned (.tuple #[.string (x.extract 0 j), .int .i64 0]) = .returned (.tuple #[.string (bs (l.take (symN l))), .int .i64 (symE l)])) := Lib.hid (by
          rw [show symE l = 0 from if_neg (by omega), hn, ← hxj, bs_of])
        have HS1 : Hid (Sc b s (at' + symN l) ln (W0.setCell ⟨b, 1, none⟩ (.int .i64 ((at' : Int) + (j : Int))))) := Lib.hid (by rw [hn]; exact HS0.out.set1 (at' + j) _ (by push_cast; rfl))
        have HG1 := Lib.hid (grow_set HG0.out 1 (.int .i64 ((at' : Int) + (j : Int))))
        clear I0 hn hp hxj
        go_wp2_with (go_at_call 60; (with_reducible refine (I1.out _).mono ?_); rintro e w1 ⟨rfl, rfl⟩)
        go_ret2
        exact ⟨HR.out, HS1.out, HG1.out⟩
      | false =>
        rw [hp] at I0
        have I1 := Lib.hid I0
        obtain ⟨i, rfl⟩ : ∃ i, j = i + 1 := ⟨j - 1, by omega⟩
        have HN : Hid (symN l = symD l i) := Lib.hid (by rw [HD.out, symD_no hp])
        clear I0 hp hxj
        go_wp2_with (go_at_call 60; (with_reducible refine (I1.out _).mono ?_); rintro e w1 ⟨rfl, rfl⟩)
        go_round
        case rel => exact ⟨i, by omega, by go_num, HN⟩
        case measure => simp [intOf] <;> omega
    · obtain rfl : j = 0 := by omega
      have hn : symN l = 0 := HD.out
      have HR : Hid (Ending.returned (.tuple #[.string ⟨#[]⟩, .int .i64 4]) = .returned (.tuple #[.string (bs (l.take (symN l))), .int .i64 (symE l)])) := Lib.hid (by rw [show symE l = 4 from if_pos hn, hn]; rfl)
      have HS1 : Hid (Sc b s (at' + symN l) ln W0) := Lib.hid (by rw [hn]; exact HS0.out)
      clear hn
      go_wp2
      go_ret2
      exact ⟨HR.out, HS1.out, HG0.out⟩
end Go.Proofs.YtbcbddglgfakpaaDoor
