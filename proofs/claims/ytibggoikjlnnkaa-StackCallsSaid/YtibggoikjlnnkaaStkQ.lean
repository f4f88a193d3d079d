/- Layer 17: the walk of StackBounds. -/
import Derived.Test.YtibggoikjlnnkaaStkP
import Derived.Test.YtibggoikjlnnkaaStkV
namespace Go.Proofs.Ytibggoikjlnnkaa
open Go.RowKit Go.Joins M1
set_option linter.unusedVariables false
theorem prog_err (lim : Nat) (l : List V5) (c : Cl) (h : progE lim l c ≠ 0) : progL lim l c = l := by
  unfold progE at h
  unfold progL
  split at h
  · rename_i hk
    rw [if_pos hk]; unfold pushL; rw [if_neg h]
  · rename_i h0
    rw [if_neg h0]
    split at h
    · rename_i hk
      rw [if_pos hk]; unfold popL; rw [if_neg h]
    · rename_i h1
      rw [if_neg h1]
      split at h
      · rename_i hk
        rw [if_pos hk]; unfold topL; rw [if_neg h]
      · rename_i h2
        rw [if_neg h2]
        split at h
        · rename_i hk; rw [if_pos hk]
        · rename_i h3
          rw [if_neg h3]
          split at h
          · rename_i hk; rw [if_pos hk]
          · rename_i h4
            rw [if_neg h4]
            split at h
            · rename_i hk
              rw [if_pos hk]; unfold putE at h; unfold putL
              cases he : absI l.length c.n with
              | none => rfl
              | some k =>
                rw [he] at h
                simp only at h ⊢
                split at h
                · exact absurd rfl h
                · rename_i ho; rw [if_neg ho]
            · rename_i h5
              rw [if_neg h5]
              split at h
              · rename_i hk
                rw [if_pos hk]; unfold atE at h; unfold rotateL
                cases he : absI l.length c.n with
                | none => rfl
                | some k => rw [he] at h; exact absurd rfl h
              · rename_i h6
                rw [if_neg h6]
                split at h
                · rename_i hk
                  rw [if_pos hk]; unfold atE at h; unfold remL
                  cases he : absI l.length c.n with
                  | none => rfl
                  | some k => rw [he] at h; exact absurd rfl h
                · rename_i h7
                  rw [if_neg h7]
                  split at h
                  · rename_i hk
                    rw [if_pos hk]; unfold atE at h; unfold rotateL
                    cases he : absI l.length c.n with
                    | none => rfl
                    | some k => rw [he] at h; exact absurd rfl h
                  · rename_i h8
                    rw [if_neg h8]
                    split at h
                    · rename_i hk
                      rw [if_pos hk]; unfold copyE at h; unfold copyL
                      split at h
                      · rename_i ha
                        rw [if_pos ha]; unfold putE at h; unfold putL
                        cases he : absI l.length c.m with
                        | none => rfl
                        | some k =>
                          rw [he] at h
                          simp only at h ⊢
                          split at h
                          · exact absurd rfl h
                          · rename_i ho; rw [if_neg ho]
                      · rename_i ha; rw [if_neg ha]
                    · rename_i h9; rw [if_neg h9]
theorem push_room (lim : Nat) (l : List V5) (x : V5) (hx : okV x = true) (hl : l.length ≤ lim) : pushE l lim x = roomE l lim 1 := by
  unfold pushE roomE
  rw [hx]
  simp only [Bool.true_eq_false, if_false]
  rw [if_neg (show ¬ (1 : Int) < 0 by decide)]
  split <;> split <;> first | rfl | omega
set_option maxHeartbeats 4000000 in
theorem long_any (p0 : Option Addr) (c0 : Nat) (l : List Cl) (w : World) (hl : l.length ≤ maxLen) (h : Cls w (.slice p0 l.length c0) l) :
    Calls Try.prog 9 #[.slice p0 l.length c0] w fun e w' => (∃ b, e = .returned (.bool b)) ∧ Ch [] w w' := by
  obtain ⟨p', c', e, hp⟩ := h.form
  injection e with e1 e2 e3
  subst e1 e3
  have HP := Lib.hid hp
  have hl2 : l.length ≤ 9223372036854775807 := hl
  clear h hp hl
  go_enter Try.func9, Try.ntmps9
  go_wp2
  go_loopw [3] (fun v2 wr => ∃ k : Nat, k ≤ l.length ∧ k ≤ 80 ∧ v2 = .int .i64 (k : Int) ∧ Hid (Ch [] w wr)) (fun v2 _ => 80 - (intOf v2).toNat)
  case atStart => exact ⟨0, Nat.zero_le _, by decide, rfl, Lib.hid (Ch.refl _ _)⟩
  case round =>
    obtain ⟨k, hk, hk80, rfl, HC⟩ := hrel
    rename World => wr
    by_cases hlt : k < l.length ∧ k < 80
    · obtain ⟨hlt1, hlt2⟩ := hlt
      have hi1 : (k : Int) < (l.length : Int) := by omega
      have hi2 : (k : Int) < 80 := by omega
      have hi0 : (0 : Int) ≤ (k : Int) := by omega
      obtain ⟨g1, o1, rfl, hg1, k1⟩ := HP.out (by omega)
      have hgl : g1 < wr.heap.size := Nat.lt_of_lt_of_le hg1 HC.out.size
      obtain ⟨c, hc⟩ : ∃ c, c = l[k] := ⟨_, rfl⟩
      have hm : wr.cell? ⟨g1, o1 + k * 8 + 6, none⟩ = some (.string c.v.s) := (HC.out.below.cell (p := ⟨g1, _, none⟩) hg1).trans (by rw [hc]; exact k1 k 6 hlt1 (by omega))
      clear k1 hc
      by_cases hs : (4106 : Int) < (c.v.s.size : Int)
      · go_wp2
        go_ret
        first | exact ⟨rfl, HC.out⟩ | exact ⟨⟨_, rfl⟩, HC.out⟩ | exact ⟨⟨decide ((80 : Int) < (l.length : Int)), rfl⟩, HC.out⟩
      · go_wp2
        go_roundw
        case rel => exact ⟨k + 1, by omega, by omega, by go_num, HC⟩
        case measure => simp [intOf]; omega
    · by_cases h1 : k < l.length
      · have hi1 : (k : Int) < (l.length : Int) := by omega
        have hi2 : ¬ (k : Int) < 80 := by omega
        clear hlt
        by_cases h80 : (80 : Int) < (l.length : Int)
        · go_wp2
          go_ret
          first | exact ⟨⟨_, rfl⟩, HC.out⟩ | exact ⟨.inr rfl, HC.out⟩
        · go_wp2
          go_ret
          first | exact ⟨⟨_, rfl⟩, HC.out⟩ | exact ⟨.inl rfl, HC.out⟩
      · have hi1 : ¬ (k : Int) < (l.length : Int) := by omega
        clear hlt
        by_cases h80 : (80 : Int) < (l.length : Int)
        · go_wp2
          go_ret
          first | exact ⟨⟨_, rfl⟩, HC.out⟩ | exact ⟨.inr rfl, HC.out⟩
        · go_wp2
          go_ret
          first | exact ⟨⟨_, rfl⟩, HC.out⟩ | exact ⟨.inl rfl, HC.out⟩
set_option maxHeartbeats 16000000 in
theorem walk_bad (n : Int) (p0 : Option Addr) (c0 : Nat) (l0 : List Cl) (w : World) (hn : n < 1 ∨ 1000 < n) (hl : l0.length ≤ maxLen) (h : Cls w (.slice p0 l0.length c0) l0) :
    Calls Try.prog 6 #[.int .i64 n, .slice p0 l0.length c0] w fun e w' => e = .returned (.bool true) ∧ Below w.heap.size w w' := by
  have QN := Lib.hid (sknew_bad n w hn)
  have QG := Lib.hid (long_any p0 c0 l0 w hl h)
  have QA := Lib.hid fun W => awake_any W
  have HN := Lib.hid hn
  clear h hl hn
  by_cases g1 : n < 1
  · have g2 : ¬ (1 : Int) ≤ n := by omega
    clear g1
    go_enter Try.func6, Try.ntmps6
    go_upto_region 4 with (go_at_call 11; (with_reducible refine (QN.out).mono ?_); rintro e w1 ⟨rfl, rfl⟩)
    go_upto_region 5 with (go_at_call 9; (with_reducible refine (QG.out).mono ?_); rintro e w2 ⟨⟨b, rfl⟩, hc⟩; have HC2 := Lib.hid hc; clear hc; cases b)
    all_goals (
      go_wp2_with (go_at_call 10; (with_reducible refine (QA.out _).mono ?_); rintro e w3 ⟨rfl, hs⟩; have HC3 : Hid (Ch [] w w3) := Lib.hid (HC2.out.trans hs); clear hs)
      go_ret
      exact ⟨rfl, HC3.out.below⟩)
  · have g2 : (1 : Int) ≤ n := by omega
    have g3 : ¬ n ≤ 1000 := by have := HN.out; omega
    clear g1
    go_enter Try.func6, Try.ntmps6
    go_upto_region 4 with (go_at_call 11; (with_reducible refine (QN.out).mono ?_); rintro e w1 ⟨rfl, rfl⟩)
    go_upto_region 5 with (go_at_call 9; (with_reducible refine (QG.out).mono ?_); rintro e w2 ⟨⟨b, rfl⟩, hc⟩; have HC2 := Lib.hid hc; clear hc; cases b)
    all_goals (
      go_wp2_with (go_at_call 10; (with_reducible refine (QA.out _).mono ?_); rintro e w3 ⟨rfl, hs⟩; have HC3 : Hid (Ch [] w w3) := Lib.hid (HC2.out.trans hs); clear hs)
      go_ret
      exact ⟨rfl, HC3.out.below⟩)
end Go.Proofs.Ytibggoikjlnnkaa
