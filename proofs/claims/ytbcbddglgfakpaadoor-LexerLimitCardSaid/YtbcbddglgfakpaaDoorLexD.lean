/- Contracts of layer 3: symbols. -/
import Derived.Test.YtbcbddglgfakpaaDoorLexC
namespace Go.Proofs.YtbcbddglgfakpaaDoor
open Go.RowKit M3
set_option linter.unusedVariables false

set_option maxHeartbeats 8000000 in
theorem isSymbol_any (s : ByteArray) (w : World) :
    Calls Tryd.prog 60 #[.string s] w fun e w' => e = .returned (.bool (sym s.data.toList)) ∧ w = w' := by
  rw [← toList_data]
  cases h0 : (s.toList == [43]) with
  | true =>
    have HX : Hid (sym s.toList = true) := Lib.hid (any_yes (ks := symsL) (k := [43]) (by decide) h0)
    go_enter Tryd.func60, Tryd.ntmps60
    go_wp2
    go_ret
    exact ⟨by rw [HX.out]; rfl, rfl⟩
  | false =>
   cases h1 : (s.toList == [45]) with
   | true =>
     have HX : Hid (sym s.toList = true) := Lib.hid (any_yes (ks := symsL) (k := [45]) (by decide) h1)
     go_enter Tryd.func60, Tryd.ntmps60
     go_wp2
     go_ret
     exact ⟨by rw [HX.out]; rfl, rfl⟩
   | false =>
    cases h2 : (s.toList == [42]) with
    | true =>
      have HX : Hid (sym s.toList = true) := Lib.hid (any_yes (ks := symsL) (k := [42]) (by decide) h2)
      go_enter Tryd.func60, Tryd.ntmps60
      go_wp2
      go_ret
      exact ⟨by rw [HX.out]; rfl, rfl⟩
    | false =>
     cases h3 : (s.toList == [47]) with
     | true =>
       have HX : Hid (sym s.toList = true) := Lib.hid (any_yes (ks := symsL) (k := [47]) (by decide) h3)
       go_enter Tryd.func60, Tryd.ntmps60
       go_wp2
       go_ret
       exact ⟨by rw [HX.out]; rfl, rfl⟩
     | false =>
      cases h4 : (s.toList == [47, 47]) with
      | true =>
        have HX : Hid (sym s.toList = true) := Lib.hid (any_yes (ks := symsL) (k := [47, 47]) (by decide) h4)
        go_enter Tryd.func60, Tryd.ntmps60
        go_wp2
        go_ret
        exact ⟨by rw [HX.out]; rfl, rfl⟩
      | false =>
       cases h5 : (s.toList == [37]) with
       | true =>
         have HX : Hid (sym s.toList = true) := Lib.hid (any_yes (ks := symsL) (k := [37]) (by decide) h5)
         go_enter Tryd.func60, Tryd.ntmps60
         go_wp2
         go_ret
         exact ⟨by rw [HX.out]; rfl, rfl⟩
       | false =>
        cases h6 : (s.toList == [94]) with
        | true =>
          have HX : Hid (sym s.toList = true) := Lib.hid (any_yes (ks := symsL) (k := [94]) (by decide) h6)
          go_enter Tryd.func60, Tryd.ntmps60
          go_wp2
          go_ret
          exact ⟨by rw [HX.out]; rfl, rfl⟩
        | false =>
         cases h7 : (s.toList == [35]) with
         | true =>
           have HX : Hid (sym s.toList = true) := Lib.hid (any_yes (ks := symsL) (k := [35]) (by decide) h7)
           go_enter Tryd.func60, Tryd.ntmps60
           go_wp2
           go_ret
           exact ⟨by rw [HX.out]; rfl, rfl⟩
         | false =>
          cases h8 : (s.toList == [38]) with
          | true =>
            have HX : Hid (sym s.toList = true) := Lib.hid (any_yes (ks := symsL) (k := [38]) (by decide) h8)
            go_enter Tryd.func60, Tryd.ntmps60
            go_wp2
            go_ret
            exact ⟨by rw [HX.out]; rfl, rfl⟩
          | false =>
           cases h9 : (s.toList == [126]) with
           | true =>
             have HX : Hid (sym s.toList = true) := Lib.hid (any_yes (ks := symsL) (k := [126]) (by decide) h9)
             go_enter Tryd.func60, Tryd.ntmps60
             go_wp2
             go_ret
             exact ⟨by rw [HX.out]; rfl, rfl⟩
           | false =>
            cases h10 : (s.toList == [124]) with
            | true =>
              have HX : Hid (sym s.toList = true) := Lib.hid (any_yes (ks := symsL) (k := [124]) (by decide) h10)
              go_enter Tryd.func60, Tryd.ntmps60
              go_wp2
              go_ret
              exact ⟨by rw [HX.out]; rfl, rfl⟩
            | false =>
             cases h11 : (s.toList == [60, 60]) with
             | true =>
               have HX : Hid (sym s.toList = true) := Lib.hid (any_yes (ks := symsL) (k := [60, 60]) (by decide) h11)
               go_enter Tryd.func60, Tryd.ntmps60
               go_wp2
               go_ret
               exact ⟨by rw [HX.out]; rfl, rfl⟩
             | false =>
              cases h12 : (s.toList == [62, 62]) with
              | true =>
                have HX : Hid (sym s.toList = true) := Lib.hid (any_yes (ks := symsL) (k := [62, 62]) (by decide) h12)
                go_enter Tryd.func60, Tryd.ntmps60
                go_wp2
                go_ret
                exact ⟨by rw [HX.out]; rfl, rfl⟩
              | false =>
               cases h13 : (s.toList == [61, 61]) with
               | true =>
                 have HX : Hid (sym s.toList = true) := Lib.hid (any_yes (ks := symsL) (k := [61, 61]) (by decide) h13)
                 go_enter Tryd.func60, Tryd.ntmps60
                 go_wp2
                 go_ret
                 exact ⟨by rw [HX.out]; rfl, rfl⟩
               | false =>
                cases h14 : (s.toList == [126, 61]) with
                | true =>
                  have HX : Hid (sym s.toList = true) := Lib.hid (any_yes (ks := symsL) (k := [126, 61]) (by decide) h14)
                  go_enter Tryd.func60, Tryd.ntmps60
                  go_wp2
                  go_ret
                  exact ⟨by rw [HX.out]; rfl, rfl⟩
                | false =>
                 cases h15 : (s.toList == [60, 61]) with
                 | true =>
                   have HX : Hid (sym s.toList = true) := Lib.hid (any_yes (ks := symsL) (k := [60, 61]) (by decide) h15)
                   go_enter Tryd.func60, Tryd.ntmps60
                   go_wp2
                   go_ret
                   exact ⟨by rw [HX.out]; rfl, rfl⟩
                 | false =>
                  cases h16 : (s.toList == [62, 61]) with
                  | true =>
                    have HX : Hid (sym s.toList = true) := Lib.hid (any_yes (ks := symsL) (k := [62, 61]) (by decide) h16)
                    go_enter Tryd.func60, Tryd.ntmps60
                    go_wp2
                    go_ret
                    exact ⟨by rw [HX.out]; rfl, rfl⟩
                  | false =>
                   cases h17 : (s.toList == [60]) with
                   | true =>
                     have HX : Hid (sym s.toList = true) := Lib.hid (any_yes (ks := symsL) (k := [60]) (by decide) h17)
                     go_enter Tryd.func60, Tryd.ntmps60
                     go_wp2
                     go_ret
                     exact ⟨by rw [HX.out]; rfl, rfl⟩
                   | false =>
                    cases h18 : (s.toList == [62]) with
                    | true =>
                      have HX : Hid (sym s.toList = true) := Lib.hid (any_yes (ks := symsL) (k := [62]) (by decide) h18)
                      go_enter Tryd.func60, Tryd.ntmps60
                      go_wp2
                      go_ret
                      exact ⟨by rw [HX.out]; rfl, rfl⟩
                    | false =>
                     cases h19 : (s.toList == [61]) with
                     | true =>
                       have HX : Hid (sym s.toList = true) := Lib.hid (any_yes (ks := symsL) (k := [61]) (by decide) h19)
                       go_enter Tryd.func60, Tryd.ntmps60
                       go_wp2
                       go_ret
                       exact ⟨by rw [HX.out]; rfl, rfl⟩
                     | false =>
                      cases h20 : (s.toList == [40]) with
                      | true =>
                        have HX : Hid (sym s.toList = true) := Lib.hid (any_yes (ks := symsL) (k := [40]) (by decide) h20)
                        go_enter Tryd.func60, Tryd.ntmps60
                        go_wp2
                        go_ret
                        exact ⟨by rw [HX.out]; rfl, rfl⟩
                      | false =>
                       cases h21 : (s.toList == [41]) with
                       | true =>
                         have HX : Hid (sym s.toList = true) := Lib.hid (any_yes (ks := symsL) (k := [41]) (by decide) h21)
                         go_enter Tryd.func60, Tryd.ntmps60
                         go_wp2
                         go_ret
                         exact ⟨by rw [HX.out]; rfl, rfl⟩
                       | false =>
                        cases h22 : (s.toList == [123]) with
                        | true =>
                          have HX : Hid (sym s.toList = true) := Lib.hid (any_yes (ks := symsL) (k := [123]) (by decide) h22)
                          go_enter Tryd.func60, Tryd.ntmps60
                          go_wp2
                          go_ret
                          exact ⟨by rw [HX.out]; rfl, rfl⟩
                        | false =>
                         cases h23 : (s.toList == [125]) with
                         | true =>
                           have HX : Hid (sym s.toList = true) := Lib.hid (any_yes (ks := symsL) (k := [125]) (by decide) h23)
                           go_enter Tryd.func60, Tryd.ntmps60
                           go_wp2
                           go_ret
                           exact ⟨by rw [HX.out]; rfl, rfl⟩
                         | false =>
                          cases h24 : (s.toList == [91]) with
                          | true =>
                            have HX : Hid (sym s.toList = true) := Lib.hid (any_yes (ks := symsL) (k := [91]) (by decide) h24)
                            go_enter Tryd.func60, Tryd.ntmps60
                            go_wp2
                            go_ret
                            exact ⟨by rw [HX.out]; rfl, rfl⟩
                          | false =>
                           cases h25 : (s.toList == [93]) with
                           | true =>
                             have HX : Hid (sym s.toList = true) := Lib.hid (any_yes (ks := symsL) (k := [93]) (by decide) h25)
                             go_enter Tryd.func60, Tryd.ntmps60
                             go_wp2
                             go_ret
                             exact ⟨by rw [HX.out]; rfl, rfl⟩
                           | false =>
                            cases h26 : (s.toList == [58, 58]) with
                            | true =>
                              have HX : Hid (sym s.toList = true) := Lib.hid (any_yes (ks := symsL) (k := [58, 58]) (by decide) h26)
                              go_enter Tryd.func60, Tryd.ntmps60
                              go_wp2
                              go_ret
                              exact ⟨by rw [HX.out]; rfl, rfl⟩
                            | false =>
                             cases h27 : (s.toList == [59]) with
                             | true =>
                               have HX : Hid (sym s.toList = true) := Lib.hid (any_yes (ks := symsL) (k := [59]) (by decide) h27)
                               go_enter Tryd.func60, Tryd.ntmps60
                               go_wp2
                               go_ret
                               exact ⟨by rw [HX.out]; rfl, rfl⟩
                             | false =>
                              cases h28 : (s.toList == [58]) with
                              | true =>
                                have HX : Hid (sym s.toList = true) := Lib.hid (any_yes (ks := symsL) (k := [58]) (by decide) h28)
                                go_enter Tryd.func60, Tryd.ntmps60
                                go_wp2
                                go_ret
                                exact ⟨by rw [HX.out]; rfl, rfl⟩
                              | false =>
                               cases h29 : (s.toList == [44]) with
                               | true =>
                                 have HX : Hid (sym s.toList = true) := Lib.hid (any_yes (ks := symsL) (k := [44]) (by decide) h29)
                                 go_enter Tryd.func60, Tryd.ntmps60
                                 go_wp2
                                 go_ret
                                 exact ⟨by rw [HX.out]; rfl, rfl⟩
                               | false =>
                                cases h30 : (s.toList == [46]) with
                                | true =>
                                  have HX : Hid (sym s.toList = true) := Lib.hid (any_yes (ks := symsL) (k := [46]) (by decide) h30)
                                  go_enter Tryd.func60, Tryd.ntmps60
                                  go_wp2
                                  go_ret
                                  exact ⟨by rw [HX.out]; rfl, rfl⟩
                                | false =>
                                 cases h31 : (s.toList == [46, 46]) with
                                 | true =>
                                   have HX : Hid (sym s.toList = true) := Lib.hid (any_yes (ks := symsL) (k := [46, 46]) (by decide) h31)
                                   go_enter Tryd.func60, Tryd.ntmps60
                                   go_wp2
                                   go_ret
                                   exact ⟨by rw [HX.out]; rfl, rfl⟩
                                 | false =>
                                  cases h32 : (s.toList == [46, 46, 46]) with
                                  | true =>
                                    have HX : Hid (sym s.toList = true) := Lib.hid (any_yes (ks := symsL) (k := [46, 46, 46]) (by decide) h32)
                                    go_enter Tryd.func60, Tryd.ntmps60
                                    go_wp2
                                    go_ret
                                    exact ⟨by rw [HX.out]; rfl, rfl⟩
                                  | false =>
                                    have HX : Hid (sym s.toList = false) := Lib.hid (by unfold sym symsL; simp only [List.any_cons, List.any_nil, h0, h1, h2, h3, h4, h5, h6, h7, h8, h9, h10, h11, h12, h13, h14, h15, h16, h17, h18, h19, h20, h21, h22, h23, h24, h25, h26, h27, h28, h29, h30, h31, h32, Bool.or_false])
                                    go_enter Tryd.func60, Tryd.ntmps60
                                    go_wp2
                                    go_ret
                                    exact ⟨by rw [HX.out]; rfl, rfl⟩
end Go.Proofs.YtbcbddglgfakpaaDoor
