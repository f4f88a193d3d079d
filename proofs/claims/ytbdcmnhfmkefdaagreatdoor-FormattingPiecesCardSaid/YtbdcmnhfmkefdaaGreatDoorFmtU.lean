/- The reference of layer 9: digits, verbs, numbers. -/
import Derived.Test.YtbdcmnhfmkefdaaGreatDoorFmtY
namespace Go.Proofs.YtbdcmnhfmkefdaaGreatDoor
open Go.RowKit Go.Joins M1 M2 M9
set_option linter.unusedVariables false
/-- A digit lies at the place. -/
def digD (l : List UInt8) (k : Nat) : Bool := match l[k]? with
  | some c => isDig c
  | none => false
theorem digD_yes {l : List UInt8} {k : Nat} (hk : k < l.length) : digD l k = isDig l[k] := by unfold digD; rw [List.getElem?_eq_getElem hk]
theorem digD_no {l : List UInt8} {k : Nat} (hk : l.length ≤ k) : digD l k = false := by unfold digD; rw [List.getElem?_eq_none hk]
theorem isDig_f {c : UInt8} (h : ¬ (48 ≤ c.toNat ∧ c.toNat ≤ 57)) : isDig c = false := by
  rw [Bool.eq_false_iff, ne_eq, isDig_iff]; exact h
theorem rdig9 (s : ByteArray) (k : Nat) (w : World) (hs : s.size ≤ 1000000) (hk2 : k ≤ 1000001) :
    Calls Tryz.prog 55 #[.string s, .int .i64 (k : Int)] w fun e w' => e = .returned (.bool (digD s.data.toList k)) ∧ w = w' := by
  have hll : s.data.toList.length = s.size := by simp
  by_cases hk : k < s.size
  · have h0 : (k : Int) < (s.size : Int) := by omega
    have e := digD_yes (l := s.data.toList) (k := k) (by omega)
    have hgk : s.data.toList[k]'(by omega) = s[k] := rfl
    rw [hgk] at e
    clear hgk hll
    generalize digD s.data.toList k = q at *
    by_cases h1 : 48 ≤ s[k].toNat
    · have d1 : decide (48 ≤ s[k].toNat) = true := decide_eq_true h1
      have d2 : (48 : Int) ≤ (s[k].toNat : Int) := by omega
      by_cases h2 : s[k].toNat ≤ 57
      · have d3 : decide (s[k].toNat ≤ 57) = true := decide_eq_true h2
        have d4 : (s[k].toNat : Int) ≤ 57 := by omega
        obtain rfl : q = true := e.trans ((isDig_iff _).2 ⟨h1, h2⟩)
        clear e
        go_enter Tryz.func55, Tryz.ntmps55
        go_wp2
        go_ret
        exact ⟨rfl, rfl⟩
      · have d3 : decide (s[k].toNat ≤ 57) = false := decide_eq_false h2
        have d4 : ¬ (s[k].toNat : Int) ≤ 57 := by omega
        obtain rfl : q = false := e.trans (isDig_f fun h => h2 h.2)
        clear e
        go_enter Tryz.func55, Tryz.ntmps55
        go_wp2
        go_ret
        exact ⟨rfl, rfl⟩
    · have d1 : decide (48 ≤ s[k].toNat) = false := decide_eq_false h1
      have d2 : ¬ (48 : Int) ≤ (s[k].toNat : Int) := by omega
      obtain rfl : q = false := e.trans (isDig_f fun h => h1 h.1)
      clear e
      go_enter Tryz.func55, Tryz.ntmps55
      go_wp2
      go_ret
      exact ⟨rfl, rfl⟩
  · have h0 : ¬ (k : Int) < (s.size : Int) := by omega
    rw [digD_no (by omega)]
    go_enter Tryz.func55, Tryz.ntmps55
    go_wp2
    go_ret
    exact ⟨rfl, rfl⟩
theorem vb_eq (c : UInt8) (n : Nat) (hn : n < 256) : (c == UInt8.ofNat n) = ((c.toNat : Int) == (n : Int)) := by
  rw [Bool.eq_iff_iff, beq_iff_eq, beq_iff_eq]
  constructor
  · rintro rfl; simp; omega
  · intro h; exact UInt8.toNat_inj.1 (by simp; omega)
theorem rverb9 (c : UInt8) (w : World) :
    Calls Tryz.prog 56 #[.int .u8 (c.toNat : Int)] w fun e w' => e = .returned (.bool (isVerb c)) ∧ w = w' := by
  obtain ⟨y, hy⟩ : ∃ y : Int, (c.toNat : Int) = y := ⟨_, rfl⟩
  have hq : isVerb c = ((y == 100) || (y == 120) || (y == 88) || (y == 111) || (y == 102) || (y == 115) || (y == 99) || (y == 113) || (y == 103)) := by
    subst hy
    unfold isVerb
    have key := fun n h => vb_eq c n h
    have k1 := key 100 (by decide); have k2 := key 120 (by decide); have k3 := key 88 (by decide); have k4 := key 111 (by decide); have k5 := key 102 (by decide); have k6 := key 115 (by decide); have k7 := key 99 (by decide); have k8 := key 113 (by decide); have k9 := key 103 (by decide)
    rw [show (100 : UInt8) = UInt8.ofNat 100 from rfl, show (120 : UInt8) = UInt8.ofNat 120 from rfl, show (88 : UInt8) = UInt8.ofNat 88 from rfl, show (111 : UInt8) = UInt8.ofNat 111 from rfl, show (102 : UInt8) = UInt8.ofNat 102 from rfl, show (115 : UInt8) = UInt8.ofNat 115 from rfl, show (99 : UInt8) = UInt8.ofNat 99 from rfl, show (113 : UInt8) = UInt8.ofNat 113 from rfl, show (103 : UInt8) = UInt8.ofNat 103 from rfl, k1, k2, k3, k4, k5, k6, k7, k8, k9]
    rfl
  rw [hy]
  generalize isVerb c = q at *
  clear hy
  cases e0 : y == 100 with
  | true =>
    rw [e0] at hq
    have hq2 : q = true := by rw [hq]; simp
    clear hq
    subst hq2
    go_enter Tryz.func56, Tryz.ntmps56
    go_wp2
    go_ret
    exact ⟨rfl, rfl⟩
  | false =>
    rw [e0] at hq
    cases e1 : y == 120 with
    | true =>
      rw [e1] at hq
      have hq2 : q = true := by rw [hq]; simp
      clear hq
      subst hq2
      go_enter Tryz.func56, Tryz.ntmps56
      go_wp2
      go_ret
      exact ⟨rfl, rfl⟩
    | false =>
      rw [e1] at hq
      cases e2 : y == 88 with
      | true =>
        rw [e2] at hq
        have hq2 : q = true := by rw [hq]; simp
        clear hq
        subst hq2
        go_enter Tryz.func56, Tryz.ntmps56
        go_wp2
        go_ret
        exact ⟨rfl, rfl⟩
      | false =>
        rw [e2] at hq
        cases e3 : y == 111 with
        | true =>
          rw [e3] at hq
          have hq2 : q = true := by rw [hq]; simp
          clear hq
          subst hq2
          go_enter Tryz.func56, Tryz.ntmps56
          go_wp2
          go_ret
          exact ⟨rfl, rfl⟩
        | false =>
          rw [e3] at hq
          cases e4 : y == 102 with
          | true =>
            rw [e4] at hq
            have hq2 : q = true := by rw [hq]; simp
            clear hq
            subst hq2
            go_enter Tryz.func56, Tryz.ntmps56
            go_wp2
            go_ret
            exact ⟨rfl, rfl⟩
          | false =>
            rw [e4] at hq
            cases e5 : y == 115 with
            | true =>
              rw [e5] at hq
              have hq2 : q = true := by rw [hq]; simp
              clear hq
              subst hq2
              go_enter Tryz.func56, Tryz.ntmps56
              go_wp2
              go_ret
              exact ⟨rfl, rfl⟩
            | false =>
              rw [e5] at hq
              cases e6 : y == 99 with
              | true =>
                rw [e6] at hq
                have hq2 : q = true := by rw [hq]; simp
                clear hq
                subst hq2
                go_enter Tryz.func56, Tryz.ntmps56
                go_wp2
                go_ret
                exact ⟨rfl, rfl⟩
              | false =>
                rw [e6] at hq
                cases e7 : y == 113 with
                | true =>
                  rw [e7] at hq
                  have hq2 : q = true := by rw [hq]; simp
                  clear hq
                  subst hq2
                  go_enter Tryz.func56, Tryz.ntmps56
                  go_wp2
                  go_ret
                  exact ⟨rfl, rfl⟩
                | false =>
                  rw [e7] at hq
                  cases e8 : y == 103 with
                  | true =>
                    rw [e8] at hq
                    have hq2 : q = true := by rw [hq]; simp
                    clear hq
                    subst hq2
                    go_enter Tryz.func56, Tryz.ntmps56
                    go_wp2
                    go_ret
                    exact ⟨rfl, rfl⟩
                  | false =>
                    rw [e8] at hq
                    have hq2 : q = false := hq
                    subst hq2
                    clear hq
                    go_enter Tryz.func56, Tryz.ntmps56
                    go_wp2
                    go_ret
                    exact ⟨rfl, rfl⟩
theorem numN_stop {m : Nat} {l : List UInt8} (h : ∀ c r, l = c :: r → isDig c = false) : ∀ k, numN k m l = (m, l)
  | 0 => rfl
  | k + 1 => by
    cases l with
    | nil => rfl
    | cons c r => rw [numN, if_neg (by rw [h c r rfl]; decide)]
theorem numN_go {k m : Nat} {c : UInt8} {r : List UInt8} (h : isDig c = true) : numN (k + 1) m (c :: r) = numN k (m * 10 + (c.toNat - 48)) r := by rw [numN, if_pos h]
theorem drop_dig {l : List UInt8} {j : Nat} (h : digD l j = false) : ∀ c r, l.drop j = c :: r → isDig c = false := by
  intro c r e
  have hj : j < l.length := by
    by_cases hj : j < l.length
    · exact hj
    · rw [List.drop_eq_nil_of_le (by omega)] at e; cases e
  rw [List.drop_eq_getElem_cons hj] at e
  injection e with e1 e2
  rw [← e1, ← digD_yes hj]; exact h
theorem digD_lt {l : List UInt8} {k : Nat} (h : digD l k = true) : ∃ hk : k < l.length, isDig l[k] = true := by
  by_cases hk : k < l.length
  · exact ⟨hk, by rw [← digD_yes hk]; exact h⟩
  · rw [digD_no (by omega)] at h; cases h
/-- The number at a place, and the place behind it. -/
def RNum (s : ByteArray) (k : Nat) (e : Ending) : Prop := ∃ j : Nat, k ≤ j ∧ j ≤ max k s.size ∧ s.data.toList.drop j = (numF (s.data.toList.drop k)).2 ∧ e = .returned (.tuple #[.int .i64 ((numF (s.data.toList.drop k)).1 : Int), .int .i64 (j : Int)])
set_option maxHeartbeats 4000000 in
theorem rnum9 (s : ByteArray) (k : Nat) (w : World) (hs : s.size ≤ 1000000) (hk2 : k ≤ 1000000) :
    Calls Tryz.prog 54 #[.string s, .int .i64 (k : Int)] w fun e w' => RNum s k e ∧ Below w.heap.size w w' := by
  have hll : s.data.toList.length = s.size := by simp
  have HR : Hid (∀ (j m : Nat), k ≤ j → j ≤ max k s.size → numF (s.data.toList.drop k) = (m, s.data.toList.drop j) → RNum s k (.returned (.tuple #[.int .i64 (m : Int), .int .i64 (j : Int)]))) := Lib.hid fun j m h1 h2 h3 => ⟨j, h1, h2, by rw [h3], by rw [h3]⟩
  go_enter Tryz.func54, Tryz.ntmps54
  go_wp2
  go_loopw [1, 6, 7] (fun v1 v6 v7 wr => ∃ i m j : Nat, i ≤ 2 ∧ k ≤ j ∧ j ≤ max k s.size ∧ m ≤ 99 ∧ (i ≤ 1 → m ≤ 9) ∧ (i = 0 → m = 0) ∧ v7 = .int .i64 (i : Int) ∧ v6 = .int .i64 (m : Int) ∧ v1 = .int .i64 (j : Int) ∧ Hid (numF (s.data.toList.drop k) = numN (2 - i) m (s.data.toList.drop j)) ∧ Hid (Below w.heap.size w wr)) (fun _ _ v7 _ => 2 - (intOf v7).toNat)
  case atStart => exact ⟨0, 0, k, by omega, Nat.le_refl _, by omega, by omega, fun _ => by omega, fun _ => rfl, rfl, rfl, rfl, Lib.hid rfl, Lib.hid (Below.refl _ _)⟩
  case round =>
    obtain ⟨i, m, j, hi, hkj, hj, hm, hm1, hm0, rfl, rfl, rfl, HN, HB⟩ := hrel
    rename World => W0
    by_cases hi2 : i < 2
    · have hi3 : (i : Int) < 2 := by omega
      have hm2 := hm1 (by omega)
      cases hd : digD s.data.toList j with
      | true =>
        obtain ⟨hjl, hdg⟩ := digD_lt hd
        have hjs : j < s.size := by omega
        have hgk : s.data.toList[j]'hjl = s[j] := rfl
        rw [hgk] at hdg
        have QD := Lib.hid (rdig9 s j W0 hs (by omega))
        rw [hd] at QD
        have hc := (isDig_iff _).1 hdg
        have HN2 : Hid (numF (s.data.toList.drop k) = numN (2 - (i + 1)) (m * 10 + (s[j].toNat - 48)) (s.data.toList.drop (j + 1))) := Lib.hid (by
          rw [HN.out, List.drop_eq_getElem_cons (by omega), show 2 - i = (2 - (i + 1)) + 1 by omega, hgk]
          exact numN_go hdg)
        have hci : (s[j].toNat : Int) ≤ 57 := by omega
        have hcj : (48 : Int) ≤ (s[j].toNat : Int) := by omega
        have q1 : IntKind.u8.wrap ((s[j].toNat : Int) - 48) = (s[j].toNat : Int) - 48 := IntWalk.u8_in _ (by omega)
        clear hd hdg HN
        go_wp2_with (go_at_call 55; (with_reducible refine (QD.out).mono ?_); rintro e w' ⟨rfl, rfl⟩)
        go_roundw
        case rel => exact ⟨i + 1, m * 10 + (s[j].toNat - 48), j + 1, by omega, by omega, by omega, by omega, by omega, by omega, by go_num, by congr 1; omega, by go_num, HN2, HB⟩
        case measure => simp [intOf]; omega
      | false =>
        have QD := Lib.hid (rdig9 s j W0 hs (by omega))
        rw [hd] at QD
        have HX := Lib.hid (HN.out.trans (numN_stop (drop_dig hd) _))
        clear hd HN
        go_wp2_with (go_at_call 55; (with_reducible refine (QD.out).mono ?_); rintro e w' ⟨rfl, rfl⟩)
        go_ret2
        exact ⟨HR.out j m hkj hj HX.out, HB.out⟩
    · obtain rfl : i = 2 := by omega
      have HX := Lib.hid (HN.out.trans (show numN 0 m _ = (m, _) from rfl))
      go_wp2
      go_ret2
      exact ⟨HR.out j m hkj hj HX.out, HB.out⟩
end Go.Proofs.YtbdcmnhfmkefdaaGreatDoor
