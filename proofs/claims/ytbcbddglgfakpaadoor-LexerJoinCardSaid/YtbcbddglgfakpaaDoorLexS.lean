/- LexerJoin: the walk. -/
import Derived.Test.YtbcbddglgfakpaaDoorLexR
import Derived.Test.YtbcbddglgfakpaaDoorLexK
namespace Go.Proofs.YtbcbddglgfakpaaDoor
open Go.RowKit Go.Joins M1 M2 M3
set_option linter.unusedVariables false
set_option maxHeartbeats 4000000 in
theorem joinLaw_any (p : Option Addr) (g o cap : Nat) (ts : List TI) (w : World) (hp : 0 < ts.length → p = some ⟨g, o, none⟩) (hA : ArgT w g o ts) (hg' : 0 < ts.length → g < w.heap.size) (hn : ts.length ≤ 9223372036854775807) :
    Calls Tryd.prog 6 #[.slice p ts.length cap] w fun e w' => e = .returned (.bool true) ∧ Below w.heap.size w w' := by
  have L1 := Lib.hid lives_any
  by_cases h100 : 100 < ts.length
  · have h100' : 100 < (ts.length : Int) := by omega
    go_enter Tryd.func6, Tryd.ntmps6
    go_wp2_with (go_at_call 10; (with_reducible refine (L1.out _).mono ?_); rintro e w1 ⟨rfl, hb1⟩)
    go_ret
    exact ⟨rfl, hb1⟩
  · have h100' : ¬ 100 < (ts.length : Int) := by omega
    have HA := Lib.hid hA
    have HP := Lib.hid hp
    have HG := Lib.hid hg'
    clear hA hp hg'
    go_enter Tryd.func6, Tryd.ntmps6
    go_wp2
    go_loop [3] (fun v3 => ∃ k : Nat, k ≤ ts.length ∧ v3 = .int .i64 (k : Int) ∧ Hid (∀ (j : Nat) (hj : j < ts.length), j < k → ts[j].x.size ≤ 300)) (fun v3 => ts.length - (intOf v3).toNat)
    case atStart => exact ⟨0, Nat.zero_le _, rfl, Lib.hid (fun j _ h => by omega)⟩
    case round =>
      obtain ⟨k, hk, rfl, HX⟩ := hrel
      by_cases hlt : k < ts.length
      · have hlt' : (k : Int) < (ts.length : Int) := by omega
        have hpp := HP.out (by omega)
        subst hpp
        have a1 := (HA.out k hlt).2.1
        by_cases h3 : 300 < ts[k].x.size
        · have h3' : 300 < (ts[k].x.size : Int) := by omega
          generalize ts[k].x = x at *
          go_wp2_with (go_at_call 10; (with_reducible refine (L1.out _).mono ?_); rintro e w1 ⟨rfl, hb1⟩)
          go_ret
          exact ⟨rfl, hb1⟩
        · have h3' : ¬ 300 < (ts[k].x.size : Int) := by omega
          have HN : Hid (∀ (j : Nat) (hj : j < ts.length), j < k + 1 → ts[j].x.size ≤ 300) := Lib.hid fun j hj hjk => by
            by_cases h : j < k
            · exact HX.out j hj h
            · obtain rfl : j = k := by omega
              omega
          generalize ts[k].x = x at a1 h3'
          clear h3
          go_wp2
          go_round
          case rel => exact ⟨k + 1, by omega, by go_num, HN⟩
          case measure => simp [intOf]; omega
      · have hlt' : ¬ (k : Int) < (ts.length : Int) := by omega
        have hx : ∀ t ∈ ts, t.x.size ≤ 5000 := fun t ht => by
          obtain ⟨j, hj, rfl⟩ := List.mem_iff_getElem.1 ht
          have := HX.out j hj (by omega)
          omega
        have J1 := Lib.hid (join_any p g o cap ts w HP.out HA.out HG.out (by omega) hx)
        have J2 := Lib.hid fun w' (hb : Below w.heap.size w w') => rjoin_any p g o cap ts w' HP.out (fun j hj => by
            have hg := HG.out (by omega)
            exact HA.out.kept hb hg j hj) (fun h => Nat.lt_of_lt_of_le (HG.out h) hb.size) (by omega) hx
        generalize bs (joinL ts) = y at *
        clear hx
        go_wp2_with fail
        refine (J1.out).mono ?_
        rintro e w1 ⟨rfl, hb1⟩
        have hz1 := hb1.size
        go_wp2_with fail
        refine (J2.out _ hb1).mono ?_
        rintro e w2 ⟨rfl, hb2⟩
        have hz2 := hb2.size
        go_wp2_with fail
        refine (L1.out _).mono ?_
        rintro e w3 ⟨rfl, hb3⟩
        go_wp2
        go_ret
        exact ⟨rfl, hb1.trans ((hb2.mono hz1).trans (hb3.mono (by omega)))⟩
end Go.Proofs.YtbcbddglgfakpaaDoor
