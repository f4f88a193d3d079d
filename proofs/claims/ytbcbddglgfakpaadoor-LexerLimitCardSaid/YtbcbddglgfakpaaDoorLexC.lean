/- Contracts of layer 3: keywords, symbols, names. -/
import Derived.Test.YtbcbddglgfakpaaDoorLexB
import Derived.Lib.ItoaNum
namespace Go.Proofs.YtbcbddglgfakpaaDoor
open Go.RowKit M3
set_option linter.unusedVariables false
theorem toList_data (s : ByteArray) : s.toList = s.data.toList := by first | exact ByteArray.toList_eq s | simp

set_option maxHeartbeats 8000000 in
theorem keyword_any (s : ByteArray) (w : World) :
    Calls Tryd.prog 14 #[.string s] w fun e w' => e = .returned (.bool (key s.data.toList)) ∧ w = w' := by
  rw [← toList_data]
  cases h0 : (s.toList == [97, 110, 100]) with
  | true =>
    have HX : Hid (key s.toList = true) := Lib.hid (any_yes (ks := keysL) (k := [97, 110, 100]) (by decide) h0)
    go_enter Tryd.func14, Tryd.ntmps14
    go_wp2
    go_ret
    exact ⟨by rw [HX.out]; rfl, rfl⟩
  | false =>
   cases h1 : (s.toList == [98, 114, 101, 97, 107]) with
   | true =>
     have HX : Hid (key s.toList = true) := Lib.hid (any_yes (ks := keysL) (k := [98, 114, 101, 97, 107]) (by decide) h1)
     go_enter Tryd.func14, Tryd.ntmps14
     go_wp2
     go_ret
     exact ⟨by rw [HX.out]; rfl, rfl⟩
   | false =>
    cases h2 : (s.toList == [100, 111]) with
    | true =>
      have HX : Hid (key s.toList = true) := Lib.hid (any_yes (ks := keysL) (k := [100, 111]) (by decide) h2)
      go_enter Tryd.func14, Tryd.ntmps14
      go_wp2
      go_ret
      exact ⟨by rw [HX.out]; rfl, rfl⟩
    | false =>
     cases h3 : (s.toList == [101, 108, 115, 101]) with
     | true =>
       have HX : Hid (key s.toList = true) := Lib.hid (any_yes (ks := keysL) (k := [101, 108, 115, 101]) (by decide) h3)
       go_enter Tryd.func14, Tryd.ntmps14
       go_wp2
       go_ret
       exact ⟨by rw [HX.out]; rfl, rfl⟩
     | false =>
      cases h4 : (s.toList == [101, 108, 115, 101, 105, 102]) with
      | true =>
        have HX : Hid (key s.toList = true) := Lib.hid (any_yes (ks := keysL) (k := [101, 108, 115, 101, 105, 102]) (by decide) h4)
        go_enter Tryd.func14, Tryd.ntmps14
        go_wp2
        go_ret
        exact ⟨by rw [HX.out]; rfl, rfl⟩
      | false =>
       cases h5 : (s.toList == [101, 110, 100]) with
       | true =>
         have HX : Hid (key s.toList = true) := Lib.hid (any_yes (ks := keysL) (k := [101, 110, 100]) (by decide) h5)
         go_enter Tryd.func14, Tryd.ntmps14
         go_wp2
         go_ret
         exact ⟨by rw [HX.out]; rfl, rfl⟩
       | false =>
        cases h6 : (s.toList == [102, 97, 108, 115, 101]) with
        | true =>
          have HX : Hid (key s.toList = true) := Lib.hid (any_yes (ks := keysL) (k := [102, 97, 108, 115, 101]) (by decide) h6)
          go_enter Tryd.func14, Tryd.ntmps14
          go_wp2
          go_ret
          exact ⟨by rw [HX.out]; rfl, rfl⟩
        | false =>
         cases h7 : (s.toList == [102, 111, 114]) with
         | true =>
           have HX : Hid (key s.toList = true) := Lib.hid (any_yes (ks := keysL) (k := [102, 111, 114]) (by decide) h7)
           go_enter Tryd.func14, Tryd.ntmps14
           go_wp2
           go_ret
           exact ⟨by rw [HX.out]; rfl, rfl⟩
         | false =>
          cases h8 : (s.toList == [102, 117, 110, 99, 116, 105, 111, 110]) with
          | true =>
            have HX : Hid (key s.toList = true) := Lib.hid (any_yes (ks := keysL) (k := [102, 117, 110, 99, 116, 105, 111, 110]) (by decide) h8)
            go_enter Tryd.func14, Tryd.ntmps14
            go_wp2
            go_ret
            exact ⟨by rw [HX.out]; rfl, rfl⟩
          | false =>
           cases h9 : (s.toList == [103, 111, 116, 111]) with
           | true =>
             have HX : Hid (key s.toList = true) := Lib.hid (any_yes (ks := keysL) (k := [103, 111, 116, 111]) (by decide) h9)
             go_enter Tryd.func14, Tryd.ntmps14
             go_wp2
             go_ret
             exact ⟨by rw [HX.out]; rfl, rfl⟩
           | false =>
            cases h10 : (s.toList == [105, 102]) with
            | true =>
              have HX : Hid (key s.toList = true) := Lib.hid (any_yes (ks := keysL) (k := [105, 102]) (by decide) h10)
              go_enter Tryd.func14, Tryd.ntmps14
              go_wp2
              go_ret
              exact ⟨by rw [HX.out]; rfl, rfl⟩
            | false =>
             cases h11 : (s.toList == [105, 110]) with
             | true =>
               have HX : Hid (key s.toList = true) := Lib.hid (any_yes (ks := keysL) (k := [105, 110]) (by decide) h11)
               go_enter Tryd.func14, Tryd.ntmps14
               go_wp2
               go_ret
               exact ⟨by rw [HX.out]; rfl, rfl⟩
             | false =>
              cases h12 : (s.toList == [108, 111, 99, 97, 108]) with
              | true =>
                have HX : Hid (key s.toList = true) := Lib.hid (any_yes (ks := keysL) (k := [108, 111, 99, 97, 108]) (by decide) h12)
                go_enter Tryd.func14, Tryd.ntmps14
                go_wp2
                go_ret
                exact ⟨by rw [HX.out]; rfl, rfl⟩
              | false =>
               cases h13 : (s.toList == [110, 105, 108]) with
               | true =>
                 have HX : Hid (key s.toList = true) := Lib.hid (any_yes (ks := keysL) (k := [110, 105, 108]) (by decide) h13)
                 go_enter Tryd.func14, Tryd.ntmps14
                 go_wp2
                 go_ret
                 exact ⟨by rw [HX.out]; rfl, rfl⟩
               | false =>
                cases h14 : (s.toList == [110, 111, 116]) with
                | true =>
                  have HX : Hid (key s.toList = true) := Lib.hid (any_yes (ks := keysL) (k := [110, 111, 116]) (by decide) h14)
                  go_enter Tryd.func14, Tryd.ntmps14
                  go_wp2
                  go_ret
                  exact ⟨by rw [HX.out]; rfl, rfl⟩
                | false =>
                 cases h15 : (s.toList == [111, 114]) with
                 | true =>
                   have HX : Hid (key s.toList = true) := Lib.hid (any_yes (ks := keysL) (k := [111, 114]) (by decide) h15)
                   go_enter Tryd.func14, Tryd.ntmps14
                   go_wp2
                   go_ret
                   exact ⟨by rw [HX.out]; rfl, rfl⟩
                 | false =>
                  cases h16 : (s.toList == [114, 101, 112, 101, 97, 116]) with
                  | true =>
                    have HX : Hid (key s.toList = true) := Lib.hid (any_yes (ks := keysL) (k := [114, 101, 112, 101, 97, 116]) (by decide) h16)
                    go_enter Tryd.func14, Tryd.ntmps14
                    go_wp2
                    go_ret
                    exact ⟨by rw [HX.out]; rfl, rfl⟩
                  | false =>
                   cases h17 : (s.toList == [114, 101, 116, 117, 114, 110]) with
                   | true =>
                     have HX : Hid (key s.toList = true) := Lib.hid (any_yes (ks := keysL) (k := [114, 101, 116, 117, 114, 110]) (by decide) h17)
                     go_enter Tryd.func14, Tryd.ntmps14
                     go_wp2
                     go_ret
                     exact ⟨by rw [HX.out]; rfl, rfl⟩
                   | false =>
                    cases h18 : (s.toList == [116, 104, 101, 110]) with
                    | true =>
                      have HX : Hid (key s.toList = true) := Lib.hid (any_yes (ks := keysL) (k := [116, 104, 101, 110]) (by decide) h18)
                      go_enter Tryd.func14, Tryd.ntmps14
                      go_wp2
                      go_ret
                      exact ⟨by rw [HX.out]; rfl, rfl⟩
                    | false =>
                     cases h19 : (s.toList == [116, 114, 117, 101]) with
                     | true =>
                       have HX : Hid (key s.toList = true) := Lib.hid (any_yes (ks := keysL) (k := [116, 114, 117, 101]) (by decide) h19)
                       go_enter Tryd.func14, Tryd.ntmps14
                       go_wp2
                       go_ret
                       exact ⟨by rw [HX.out]; rfl, rfl⟩
                     | false =>
                      cases h20 : (s.toList == [117, 110, 116, 105, 108]) with
                      | true =>
                        have HX : Hid (key s.toList = true) := Lib.hid (any_yes (ks := keysL) (k := [117, 110, 116, 105, 108]) (by decide) h20)
                        go_enter Tryd.func14, Tryd.ntmps14
                        go_wp2
                        go_ret
                        exact ⟨by rw [HX.out]; rfl, rfl⟩
                      | false =>
                       cases h21 : (s.toList == [119, 104, 105, 108, 101]) with
                       | true =>
                         have HX : Hid (key s.toList = true) := Lib.hid (any_yes (ks := keysL) (k := [119, 104, 105, 108, 101]) (by decide) h21)
                         go_enter Tryd.func14, Tryd.ntmps14
                         go_wp2
                         go_ret
                         exact ⟨by rw [HX.out]; rfl, rfl⟩
                       | false =>
                         have HX : Hid (key s.toList = false) := Lib.hid (by unfold key keysL; simp only [List.any_cons, List.any_nil, h0, h1, h2, h3, h4, h5, h6, h7, h8, h9, h10, h11, h12, h13, h14, h15, h16, h17, h18, h19, h20, h21, Bool.or_false])
                         go_enter Tryd.func14, Tryd.ntmps14
                         go_wp2
                         go_ret
                         exact ⟨by rw [HX.out]; rfl, rfl⟩

set_option maxHeartbeats 8000000 in
theorem rkeyword_any (s : ByteArray) (w : World) :
    Calls Tryd.prog 16 #[.string s] w fun e w' => e = .returned (.bool (key s.data.toList)) ∧ w = w' := by
  rw [← toList_data]
  cases h0 : (s.toList == [97, 110, 100]) with
  | true =>
    have HX : Hid (key s.toList = true) := Lib.hid (any_yes (ks := keysL) (k := [97, 110, 100]) (by decide) h0)
    go_enter Tryd.func16, Tryd.ntmps16
    go_wp2
    go_ret
    exact ⟨by rw [HX.out]; rfl, rfl⟩
  | false =>
   cases h1 : (s.toList == [98, 114, 101, 97, 107]) with
   | true =>
     have HX : Hid (key s.toList = true) := Lib.hid (any_yes (ks := keysL) (k := [98, 114, 101, 97, 107]) (by decide) h1)
     go_enter Tryd.func16, Tryd.ntmps16
     go_wp2
     go_ret
     exact ⟨by rw [HX.out]; rfl, rfl⟩
   | false =>
    cases h2 : (s.toList == [100, 111]) with
    | true =>
      have HX : Hid (key s.toList = true) := Lib.hid (any_yes (ks := keysL) (k := [100, 111]) (by decide) h2)
      go_enter Tryd.func16, Tryd.ntmps16
      go_wp2
      go_ret
      exact ⟨by rw [HX.out]; rfl, rfl⟩
    | false =>
     cases h3 : (s.toList == [101, 108, 115, 101]) with
     | true =>
       have HX : Hid (key s.toList = true) := Lib.hid (any_yes (ks := keysL) (k := [101, 108, 115, 101]) (by decide) h3)
       go_enter Tryd.func16, Tryd.ntmps16
       go_wp2
       go_ret
       exact ⟨by rw [HX.out]; rfl, rfl⟩
     | false =>
      cases h4 : (s.toList == [101, 108, 115, 101, 105, 102]) with
      | true =>
        have HX : Hid (key s.toList = true) := Lib.hid (any_yes (ks := keysL) (k := [101, 108, 115, 101, 105, 102]) (by decide) h4)
        go_enter Tryd.func16, Tryd.ntmps16
        go_wp2
        go_ret
        exact ⟨by rw [HX.out]; rfl, rfl⟩
      | false =>
       cases h5 : (s.toList == [101, 110, 100]) with
       | true =>
         have HX : Hid (key s.toList = true) := Lib.hid (any_yes (ks := keysL) (k := [101, 110, 100]) (by decide) h5)
         go_enter Tryd.func16, Tryd.ntmps16
         go_wp2
         go_ret
         exact ⟨by rw [HX.out]; rfl, rfl⟩
       | false =>
        cases h6 : (s.toList == [102, 97, 108, 115, 101]) with
        | true =>
          have HX : Hid (key s.toList = true) := Lib.hid (any_yes (ks := keysL) (k := [102, 97, 108, 115, 101]) (by decide) h6)
          go_enter Tryd.func16, Tryd.ntmps16
          go_wp2
          go_ret
          exact ⟨by rw [HX.out]; rfl, rfl⟩
        | false =>
         cases h7 : (s.toList == [102, 111, 114]) with
         | true =>
           have HX : Hid (key s.toList = true) := Lib.hid (any_yes (ks := keysL) (k := [102, 111, 114]) (by decide) h7)
           go_enter Tryd.func16, Tryd.ntmps16
           go_wp2
           go_ret
           exact ⟨by rw [HX.out]; rfl, rfl⟩
         | false =>
          cases h8 : (s.toList == [102, 117, 110, 99, 116, 105, 111, 110]) with
          | true =>
            have HX : Hid (key s.toList = true) := Lib.hid (any_yes (ks := keysL) (k := [102, 117, 110, 99, 116, 105, 111, 110]) (by decide) h8)
            go_enter Tryd.func16, Tryd.ntmps16
            go_wp2
            go_ret
            exact ⟨by rw [HX.out]; rfl, rfl⟩
          | false =>
           cases h9 : (s.toList == [103, 111, 116, 111]) with
           | true =>
             have HX : Hid (key s.toList = true) := Lib.hid (any_yes (ks := keysL) (k := [103, 111, 116, 111]) (by decide) h9)
             go_enter Tryd.func16, Tryd.ntmps16
             go_wp2
             go_ret
             exact ⟨by rw [HX.out]; rfl, rfl⟩
           | false =>
            cases h10 : (s.toList == [105, 102]) with
            | true =>
              have HX : Hid (key s.toList = true) := Lib.hid (any_yes (ks := keysL) (k := [105, 102]) (by decide) h10)
              go_enter Tryd.func16, Tryd.ntmps16
              go_wp2
              go_ret
              exact ⟨by rw [HX.out]; rfl, rfl⟩
            | false =>
             cases h11 : (s.toList == [105, 110]) with
             | true =>
               have HX : Hid (key s.toList = true) := Lib.hid (any_yes (ks := keysL) (k := [105, 110]) (by decide) h11)
               go_enter Tryd.func16, Tryd.ntmps16
               go_wp2
               go_ret
               exact ⟨by rw [HX.out]; rfl, rfl⟩
             | false =>
              cases h12 : (s.toList == [108, 111, 99, 97, 108]) with
              | true =>
                have HX : Hid (key s.toList = true) := Lib.hid (any_yes (ks := keysL) (k := [108, 111, 99, 97, 108]) (by decide) h12)
                go_enter Tryd.func16, Tryd.ntmps16
                go_wp2
                go_ret
                exact ⟨by rw [HX.out]; rfl, rfl⟩
              | false =>
               cases h13 : (s.toList == [110, 105, 108]) with
               | true =>
                 have HX : Hid (key s.toList = true) := Lib.hid (any_yes (ks := keysL) (k := [110, 105, 108]) (by decide) h13)
                 go_enter Tryd.func16, Tryd.ntmps16
                 go_wp2
                 go_ret
                 exact ⟨by rw [HX.out]; rfl, rfl⟩
               | false =>
                cases h14 : (s.toList == [110, 111, 116]) with
                | true =>
                  have HX : Hid (key s.toList = true) := Lib.hid (any_yes (ks := keysL) (k := [110, 111, 116]) (by decide) h14)
                  go_enter Tryd.func16, Tryd.ntmps16
                  go_wp2
                  go_ret
                  exact ⟨by rw [HX.out]; rfl, rfl⟩
                | false =>
                 cases h15 : (s.toList == [111, 114]) with
                 | true =>
                   have HX : Hid (key s.toList = true) := Lib.hid (any_yes (ks := keysL) (k := [111, 114]) (by decide) h15)
                   go_enter Tryd.func16, Tryd.ntmps16
                   go_wp2
                   go_ret
                   exact ⟨by rw [HX.out]; rfl, rfl⟩
                 | false =>
                  cases h16 : (s.toList == [114, 101, 112, 101, 97, 116]) with
                  | true =>
                    have HX : Hid (key s.toList = true) := Lib.hid (any_yes (ks := keysL) (k := [114, 101, 112, 101, 97, 116]) (by decide) h16)
                    go_enter Tryd.func16, Tryd.ntmps16
                    go_wp2
                    go_ret
                    exact ⟨by rw [HX.out]; rfl, rfl⟩
                  | false =>
                   cases h17 : (s.toList == [114, 101, 116, 117, 114, 110]) with
                   | true =>
                     have HX : Hid (key s.toList = true) := Lib.hid (any_yes (ks := keysL) (k := [114, 101, 116, 117, 114, 110]) (by decide) h17)
                     go_enter Tryd.func16, Tryd.ntmps16
                     go_wp2
                     go_ret
                     exact ⟨by rw [HX.out]; rfl, rfl⟩
                   | false =>
                    cases h18 : (s.toList == [116, 104, 101, 110]) with
                    | true =>
                      have HX : Hid (key s.toList = true) := Lib.hid (any_yes (ks := keysL) (k := [116, 104, 101, 110]) (by decide) h18)
                      go_enter Tryd.func16, Tryd.ntmps16
                      go_wp2
                      go_ret
                      exact ⟨by rw [HX.out]; rfl, rfl⟩
                    | false =>
                     cases h19 : (s.toList == [116, 114, 117, 101]) with
                     | true =>
                       have HX : Hid (key s.toList = true) := Lib.hid (any_yes (ks := keysL) (k := [116, 114, 117, 101]) (by decide) h19)
                       go_enter Tryd.func16, Tryd.ntmps16
                       go_wp2
                       go_ret
                       exact ⟨by rw [HX.out]; rfl, rfl⟩
                     | false =>
                      cases h20 : (s.toList == [117, 110, 116, 105, 108]) with
                      | true =>
                        have HX : Hid (key s.toList = true) := Lib.hid (any_yes (ks := keysL) (k := [117, 110, 116, 105, 108]) (by decide) h20)
                        go_enter Tryd.func16, Tryd.ntmps16
                        go_wp2
                        go_ret
                        exact ⟨by rw [HX.out]; rfl, rfl⟩
                      | false =>
                       cases h21 : (s.toList == [119, 104, 105, 108, 101]) with
                       | true =>
                         have HX : Hid (key s.toList = true) := Lib.hid (any_yes (ks := keysL) (k := [119, 104, 105, 108, 101]) (by decide) h21)
                         go_enter Tryd.func16, Tryd.ntmps16
                         go_wp2
                         go_ret
                         exact ⟨by rw [HX.out]; rfl, rfl⟩
                       | false =>
                         have HX : Hid (key s.toList = false) := Lib.hid (by unfold key keysL; simp only [List.any_cons, List.any_nil, h0, h1, h2, h3, h4, h5, h6, h7, h8, h9, h10, h11, h12, h13, h14, h15, h16, h17, h18, h19, h20, h21, Bool.or_false])
                         go_enter Tryd.func16, Tryd.ntmps16
                         go_wp2
                         go_ret
                         exact ⟨by rw [HX.out]; rfl, rfl⟩

theorem rdigit3_any (c : UInt8) (w : World) :
    Calls Tryd.prog 34 #[.int .u8 (c.toNat : Int)] w fun e w' => e = .returned (.bool (dgt c)) ∧ w = w' := by
  have hcb := byte_bd3 c
  by_cases h1 : 48 ≤ c.toNat
  · by_cases h2 : c.toNat ≤ 57
    · have HX : Hid (dgt c = true) := Lib.hid (decide_eq_true ⟨h1, h2⟩)
      have g1 : 48 ≤ (c.toNat : Int) := by omega
      have g2 : (c.toNat : Int) ≤ 57 := by omega
      go_enter Tryd.func34, Tryd.ntmps34
      go_wp2
      go_ret
      exact ⟨by rw [HX.out]; rfl, rfl⟩
    · have HX : Hid (dgt c = false) := Lib.hid (decide_eq_false (by omega))
      have g1 : 48 ≤ (c.toNat : Int) := by omega
      have g2 : ¬ (c.toNat : Int) ≤ 57 := by omega
      go_enter Tryd.func34, Tryd.ntmps34
      go_wp2
      go_ret
      exact ⟨by rw [HX.out]; rfl, rfl⟩
  · have HX : Hid (dgt c = false) := Lib.hid (decide_eq_false (by omega))
    have g1 : ¬ 48 ≤ (c.toNat : Int) := by omega
    go_enter Tryd.func34, Tryd.ntmps34
    go_wp2
    go_ret
    exact ⟨by rw [HX.out]; rfl, rfl⟩


theorem rletter_any (c : UInt8) (w : World) :
    Calls Tryd.prog 52 #[.int .u8 (c.toNat : Int)] w fun e w' => e = .returned (.bool (ltr c)) ∧ w = w' := by
  have hcb := byte_bd3 c
  rcases (show (0 ≤ c.toNat ∧ c.toNat ≤ 64) ∨ (65 ≤ c.toNat ∧ c.toNat ≤ 90) ∨ (91 ≤ c.toNat ∧ c.toNat ≤ 94) ∨ (95 ≤ c.toNat ∧ c.toNat ≤ 95) ∨ (96 ≤ c.toNat ∧ c.toNat ≤ 96) ∨ (97 ≤ c.toNat ∧ c.toNat ≤ 122) ∨ (123 ≤ c.toNat ∧ c.toNat ≤ 255) from by have := c.toNat_lt; omega) with ⟨h1, h2⟩ | ⟨h1, h2⟩ | ⟨h1, h2⟩ | ⟨h1, h2⟩ | ⟨h1, h2⟩ | ⟨h1, h2⟩ | ⟨h1, h2⟩
  · have HX : Hid (ltr c = false) := Lib.hid (decide_eq_false (by omega))
    have g4 : (c.toNat : Int) ≤ 90 := by omega
    have g5 : (c.toNat : Int) ≤ 122 := by omega
    have g6 : ¬ 65 ≤ (c.toNat : Int) := by omega
    have g7 : ¬ 97 ≤ (c.toNat : Int) := by omega
    have g3 : ((c.toNat : Int) == 95) = false := by first | (rw [beq_iff_eq]; omega) | (rw [beq_eq_false_iff_ne]; omega)
    clear h1 h2
    generalize (c.toNat : Int) = n at *
    go_enter Tryd.func52, Tryd.ntmps52
    go_wp2
    go_ret
    exact ⟨by rw [HX.out]; rfl, rfl⟩
  · have HX : Hid (ltr c = true) := Lib.hid (decide_eq_true (by omega))
    have g4 : (c.toNat : Int) ≤ 90 := by omega
    have g5 : (c.toNat : Int) ≤ 122 := by omega
    have g6 : 65 ≤ (c.toNat : Int) := by omega
    have g7 : ¬ 97 ≤ (c.toNat : Int) := by omega
    have g3 : ((c.toNat : Int) == 95) = false := by first | (rw [beq_iff_eq]; omega) | (rw [beq_eq_false_iff_ne]; omega)
    clear h1 h2
    generalize (c.toNat : Int) = n at *
    go_enter Tryd.func52, Tryd.ntmps52
    go_wp2
    go_ret
    exact ⟨by rw [HX.out]; rfl, rfl⟩
  · have HX : Hid (ltr c = false) := Lib.hid (decide_eq_false (by omega))
    have g4 : ¬ (c.toNat : Int) ≤ 90 := by omega
    have g5 : (c.toNat : Int) ≤ 122 := by omega
    have g6 : 65 ≤ (c.toNat : Int) := by omega
    have g7 : ¬ 97 ≤ (c.toNat : Int) := by omega
    have g3 : ((c.toNat : Int) == 95) = false := by first | (rw [beq_iff_eq]; omega) | (rw [beq_eq_false_iff_ne]; omega)
    clear h1 h2
    generalize (c.toNat : Int) = n at *
    go_enter Tryd.func52, Tryd.ntmps52
    go_wp2
    go_ret
    exact ⟨by rw [HX.out]; rfl, rfl⟩
  · have HX : Hid (ltr c = true) := Lib.hid (decide_eq_true (by omega))
    have g4 : ¬ (c.toNat : Int) ≤ 90 := by omega
    have g5 : (c.toNat : Int) ≤ 122 := by omega
    have g6 : 65 ≤ (c.toNat : Int) := by omega
    have g7 : ¬ 97 ≤ (c.toNat : Int) := by omega
    have g3 : ((c.toNat : Int) == 95) = true := by first | (rw [beq_iff_eq]; omega) | (rw [beq_eq_false_iff_ne]; omega)
    clear h1 h2
    generalize (c.toNat : Int) = n at *
    go_enter Tryd.func52, Tryd.ntmps52
    go_wp2
    go_ret
    exact ⟨by rw [HX.out]; rfl, rfl⟩
  · have HX : Hid (ltr c = false) := Lib.hid (decide_eq_false (by omega))
    have g4 : ¬ (c.toNat : Int) ≤ 90 := by omega
    have g5 : (c.toNat : Int) ≤ 122 := by omega
    have g6 : 65 ≤ (c.toNat : Int) := by omega
    have g7 : ¬ 97 ≤ (c.toNat : Int) := by omega
    have g3 : ((c.toNat : Int) == 95) = false := by first | (rw [beq_iff_eq]; omega) | (rw [beq_eq_false_iff_ne]; omega)
    clear h1 h2
    generalize (c.toNat : Int) = n at *
    go_enter Tryd.func52, Tryd.ntmps52
    go_wp2
    go_ret
    exact ⟨by rw [HX.out]; rfl, rfl⟩
  · have HX : Hid (ltr c = true) := Lib.hid (decide_eq_true (by omega))
    have g4 : ¬ (c.toNat : Int) ≤ 90 := by omega
    have g5 : (c.toNat : Int) ≤ 122 := by omega
    have g6 : 65 ≤ (c.toNat : Int) := by omega
    have g7 : 97 ≤ (c.toNat : Int) := by omega
    have g3 : ((c.toNat : Int) == 95) = false := by first | (rw [beq_iff_eq]; omega) | (rw [beq_eq_false_iff_ne]; omega)
    clear h1 h2
    generalize (c.toNat : Int) = n at *
    go_enter Tryd.func52, Tryd.ntmps52
    go_wp2
    go_ret
    exact ⟨by rw [HX.out]; rfl, rfl⟩
  · have HX : Hid (ltr c = false) := Lib.hid (decide_eq_false (by omega))
    have g4 : ¬ (c.toNat : Int) ≤ 90 := by omega
    have g5 : ¬ (c.toNat : Int) ≤ 122 := by omega
    have g6 : 65 ≤ (c.toNat : Int) := by omega
    have g7 : 97 ≤ (c.toNat : Int) := by omega
    have g3 : ((c.toNat : Int) == 95) = false := by first | (rw [beq_iff_eq]; omega) | (rw [beq_eq_false_iff_ne]; omega)
    clear h1 h2
    generalize (c.toNat : Int) = n at *
    go_enter Tryd.func52, Tryd.ntmps52
    go_wp2
    go_ret
    exact ⟨by rw [HX.out]; rfl, rfl⟩

theorem rword_any (c : UInt8) (w : World) :
    Calls Tryd.prog 35 #[.int .u8 (c.toNat : Int)] w fun e w' => e = .returned (.bool (wrd c)) ∧ w = w' := by
  have L1 := Lib.hid fun w => rletter_any c w
  have D1 := Lib.hid fun w => rdigit3_any c w
  rw [wrd_eq]
  generalize dgt c = dd at *
  cases hl : ltr c with
  | true =>
    rw [hl] at L1
    go_enter Tryd.func35, Tryd.ntmps35
    go_wp2_with (first | (go_at_call 52; (with_reducible refine (L1.out _).mono ?_); rintro e w1 ⟨rfl, rfl⟩) | (go_at_call 34; (with_reducible refine (D1.out _).mono ?_); rintro e w1 ⟨rfl, rfl⟩))
    go_ret
    exact ⟨by first | rfl | simp, rfl⟩
  | false =>
    rw [hl] at L1
    go_enter Tryd.func35, Tryd.ntmps35
    go_wp2_with (first | (go_at_call 52; (with_reducible refine (L1.out _).mono ?_); rintro e w1 ⟨rfl, rfl⟩) | (go_at_call 34; (with_reducible refine (D1.out _).mono ?_); rintro e w1 ⟨rfl, rfl⟩))
    go_ret
    exact ⟨by first | rfl | simp, rfl⟩

theorem name_big (b : Nat) (s x : ByteArray) (at' ln n : Nat) (w : World) (hx : x.size = n) (hn : 40 < n) (hn2 : n ≤ 4000000000)
    (T1 : Hid (Calls Tryd.prog 32 #[.pointer (some ⟨b, 0, none⟩), .func (.func 33) #[] #[]] w fun e w' => e = .returned (.string x) ∧ Sc b s (at' + n) ln w' ∧ w.grownBy w' (some b))) :
    Calls Tryd.prog 49 #[.pointer (some ⟨b, 0, none⟩)] w fun e w' => e = .returned (.tuple #[.string ⟨#[]⟩, .int .i64 3]) ∧ Sc b s (at' + n) ln w' ∧ w.grownBy w' (some b) := by
  have hn' : 40 < (x.size : Int) := by omega
  clear hx hn
  go_enter Tryd.func49, Tryd.ntmps49
  go_wp2_with (go_at_call 32; (with_reducible refine (T1.out).mono ?_); rintro e w1 ⟨rfl, hs1, hg1⟩)
  go_ret2
  exact ⟨rfl, hs1, hg1⟩

theorem name_ok (b : Nat) (s x : ByteArray) (at' ln n : Nat) (w : World) (hx : x.size = n) (hn : n ≤ 40) (hn2 : n ≤ 4000000000)
    (T1 : Hid (Calls Tryd.prog 32 #[.pointer (some ⟨b, 0, none⟩), .func (.func 33) #[] #[]] w fun e w' => e = .returned (.string x) ∧ Sc b s (at' + n) ln w' ∧ w.grownBy w' (some b))) :
    Calls Tryd.prog 49 #[.pointer (some ⟨b, 0, none⟩)] w fun e w' => e = .returned (.tuple #[.string x, .int .i64 0]) ∧ Sc b s (at' + n) ln w' ∧ w.grownBy w' (some b) := by
  have hn' : ¬ 40 < (x.size : Int) := by omega
  clear hx hn
  go_enter Tryd.func49, Tryd.ntmps49
  go_wp2_with (go_at_call 32; (with_reducible refine (T1.out).mono ?_); rintro e w1 ⟨rfl, hs1, hg1⟩)
  go_ret2
  exact ⟨rfl, hs1, hg1⟩
end Go.Proofs.YtbcbddglgfakpaaDoor
