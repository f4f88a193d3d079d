/- Contracts of layer 4: %b. -/
import Derived.Test.YtkbcaklleiapdaaDoorPatS
namespace Go.Proofs.YtkbcaklleiapdaaDoor
open Go.RowKit M4
set_option linter.unusedVariables false
/-- What an item without a quantifier leaves, if it is no capture. -/
def BalSaid (E : Env) (m : Caps) (left : Int) (o : Option Nat) (n : Nat) (e : Ending) (w' : World) : Prop :=
  if (n : Int) ≤ left then (match o with | some k => e = .returned (.tuple #[.int .i64 (k : Int), .bool true]) | none => e = .returned (.tuple #[.int .i64 0, .bool false])) ∧ Mat E m (left - n) w'
  else e = .returned (.tuple #[.int .i64 0, .bool false]) ∧ Mat E m (-1) w'
theorem balL_cons (x y c : UInt8) (cs : List UInt8) (d k : Nat) : balL x y (c :: cs) d k = if balD x y c d = 0 then (some (k + 1), 1) else ((balL x y cs (balD x y c d) (k + 1)).1, (balL x y cs (balD x y c d) (k + 1)).2 + 1) := rfl

set_option maxHeartbeats 1000000 in
theorem byteAt_any (s : ByteArray) (i : Int) (w : World) (hs : s.size ≤ 1000000) (h1 : -1 ≤ i) (h2 : i ≤ (s.size : Int)) :
    Calls Tryd.prog 80 #[.string s, .int .i64 i] w fun e w' => e = .returned (.int .u8 ((at0 s.data.toList i).toNat : Int)) ∧ w' = w := by
  by_cases hn : i < 0
  · have hr : at0 s.data.toList i = 0 := by unfold at0; rw [if_pos hn]
    rw [hr]
    go_enter Tryd.func80, Tryd.ntmps80
    go_wp2
    go_ret
    exact ⟨rfl, rfl⟩
  · obtain ⟨k, rfl⟩ : ∃ k : Nat, i = (k : Int) := ⟨i.toNat, by omega⟩
    have hk0 : 0 ≤ (k : Int) := by omega
    by_cases hk : k < s.size
    · have hr : at0 s.data.toList (k : Int) = s[k] := by
        unfold at0; rw [if_neg hn, Int.toNat_natCast, List.getD_eq_getElem?_getD, get_some s k hk]; rfl
      rw [hr]
      have hkk : (k : Int) < (s.size : Int) := by omega
      have hkd : decide (s.size ≤ k) = false := decide_eq_false (by omega)
      clear hn hr
      go_enter Tryd.func80, Tryd.ntmps80
      go_wp2
      go_ret
      exact ⟨rfl, rfl⟩
    · have hr : at0 s.data.toList (k : Int) = 0 := by
        unfold at0; rw [if_neg hn, Int.toNat_natCast, List.getD_eq_getElem?_getD, List.getElem?_eq_none (by simp; omega)]; rfl
      rw [hr]
      have hkk : ¬ (k : Int) < (s.size : Int) := by omega
      have hkd : decide (s.size ≤ k) = true := decide_eq_true (by omega)
      clear hn hr
      go_enter Tryd.func80, Tryd.ntmps80
      go_wp2
      go_ret
      exact ⟨rfl, rfl⟩
set_option maxHeartbeats 8000000 in
set_option maxRecDepth 100000 in
theorem balanced_yes (E : Env) (m : Caps) (left : Int) (i : Nat) (x y : UInt8) (w : World) (hs : E.s.size ≤ 1000000) (hl : 0 ≤ left ∧ left ≤ 1000000) (hx : E.s.data.toList[i]? = some x) (h : Mat E m left w) :
    Calls Tryd.prog 81 #[.string E.s, .int .i64 (i : Int), .int .u8 (x.toNat : Int), .int .u8 (y.toNat : Int), .func (.func 52) #[] #[.pointer (some ⟨E.mv, 0, none⟩)]] w fun e w' => BalSaid E m left (balL x y (E.s.data.toList.drop (i + 1)) 1 (i + 1)).1 (balL x y (E.s.data.toList.drop (i + 1)) 1 (i + 1)).2 e w' ∧ Ch [E.b] w w' := by
  have hll : E.s.data.toList.length = E.s.size := Array.length_toList
  obtain ⟨l1, l2⟩ := hl
  obtain ⟨hi, hix⟩ := get_of hx
  have hii : ((i : Int) == (E.s.size : Int)) = false := by rw [beq_eq_false_iff_ne]; omega
  have hi0 : 0 ≤ (i : Int) := by omega
  have hilt : (i : Int) < (E.s.size : Int) := by omega
  have hxne : ((E.s[i].toNat : Int) != (x.toNat : Int)) = false := by rw [hix]; simp
  obtain ⟨o, n, hon⟩ : ∃ o n, balL x y (E.s.data.toList.drop (i + 1)) 1 (i + 1) = (o, n) := ⟨_, _, rfl⟩
  rw [hon]
  simp only []
  have HB0 := Lib.hid hon
  have HM0 := Lib.hid h
  have HX := Lib.hid hix
  clear h hix hon hx
  go_enter Tryd.func81, Tryd.ntmps81
  go_wp2
  go_loopw [1, 12] (fun vi vd wr => ∃ (k d : Nat) (L : Int), i + 1 ≤ k ∧ k ≤ E.s.size ∧ 1 ≤ d ∧ d ≤ k ∧ 0 ≤ L ∧ L = left - ((k : Int) - ((i : Int) + 1)) ∧ vi = .int .i64 (k : Int) ∧ vd = .int .i64 (d : Int) ∧ Hid (Mat E m L wr) ∧ Hid (Ch [E.b] w wr) ∧ Hid ((o, n) = ((balL x y (E.s.data.toList.drop k) d k).1, (balL x y (E.s.data.toList.drop k) d k).2 + (k - (i + 1))))) (fun vi _ _ => E.s.size - (intOf vi).toNat)
  case atStart => exact ⟨i + 1, 1, left, by omega, by omega, by omega, by omega, by omega, by omega, by go_num, rfl, HM0, Lib.hid (Ch.refl _ _), Lib.hid (by rw [HB0.out]; simp)⟩
  case round =>
    obtain ⟨k, d, L, hk1, hk2, hd1, hd2, hL0, hL, rfl, rfl, HM, HG, HB⟩ := hrel
    rename World => W0
    clear HM0
    by_cases hks : k < E.s.size
    · have hks' : (k : Int) < (E.s.size : Int) := by omega
      have hk0 : 0 ≤ (k : Int) := by omega
      have S1 := Lib.hid (step_any E m L W0 (by omega) HM.out)
      by_cases hL1 : 0 ≤ L - 1
      · have S2 : Hid (Calls Tryd.prog 52 #[.pointer (some ⟨E.mv, 0, none⟩)] W0 fun e w' => e = .returned (.bool true) ∧ Mat E m (L - 1) w' ∧ Ch [E.b] W0 w') := Lib.hid (by have := S1.out; rw [decide_eq_true hL1] at this; exact this)
        clear S1
        obtain ⟨c, hc⟩ : ∃ c, E.s[k] = c := ⟨_, rfl⟩
        have HC : Hid (E.s.data.toList[k]'(by rw [hll]; exact hks) = c) := Lib.hid hc
        have hci : (E.s[k].toNat : Int) = (c.toNat : Int) := by rw [hc]
        clear hc
        by_cases hcy : c = y
        · have y1 : ((c.toNat : Int) == (y.toNat : Int)) = true := by rw [hcy]; simp
          have HDD : Hid (balD x y c d = d - 1) := Lib.hid (by unfold balD; rw [if_pos hcy])
          clear hcy
          by_cases hd0 : d = 1
          · subst hd0
            have hnk : Hid (o = some (k + 1) ∧ n = 1 + (k - (i + 1))) := Lib.hid (by
              have := HB.out
              rw [List.drop_eq_getElem_cons (by rw [hll]; exact hks), balL_cons, HC.out, HDD.out] at this
              simp at this
              exact ⟨this.1, by omega⟩)
            go_wp2_with (go_at_call 52; (with_reducible refine (S2.out).mono ?_); rintro e w1 ⟨rfl, h1, hg1⟩)
            go_ret2
            obtain ⟨e1, e2⟩ := hnk.out
            refine ⟨?_, HG.out.trans hg1⟩
            unfold BalSaid
            rw [if_pos (by omega), e1, show left - (n : Int) = L - 1 by omega]
            exact ⟨by simp, h1⟩
          · obtain ⟨d', rfl⟩ : ∃ d', d = d' + 1 := ⟨d - 1, by omega⟩
            have HDD : Hid (balD x y c (d' + 1) = d') := Lib.hid (by rw [HDD.out]; omega)
            have y3 : ((d' : Int) == 0) = false := by rw [beq_eq_false_iff_ne]; omega
            have y4 : ((d' + 1 : Nat) : Int) - 1 = (d' : Int) := by omega
            have y5 : (d' : Int) + 1 - 1 = (d' : Int) := by omega
            have y6 : IntKind.i64.wrap (d' : Int) = (d' : Int) := i64w _ (by omega)
            go_wp2_with (go_at_call 52; (with_reducible refine (S2.out).mono ?_); rintro e w1 ⟨rfl, h1, hg1⟩)
            go_roundw
            case rel => exact ⟨k + 1, d', L - 1, by omega, by omega, by omega, by omega, by omega, by omega, by go_num, (by first | rfl | go_num | (congr 1; omega)), Lib.hid h1, Lib.hid (HG.out.trans hg1), Lib.hid (by
              have := HB.out
              rw [List.drop_eq_getElem_cons (by rw [hll]; exact hks), balL_cons, HC.out] at this
              rw [this]
              simp only [HDD.out]
              rw [if_neg (by omega)]
              exact Prod.ext rfl (by simp only []; omega))⟩
            case measure => simp [intOf]; omega
        · have y1 : ((c.toNat : Int) == (y.toNat : Int)) = false := by rw [beq_eq_false_iff_ne]; intro e; exact hcy (UInt8.toNat_inj.1 (by omega))
          by_cases hcx : c = x
          · have y2 : ((c.toNat : Int) == (x.toNat : Int)) = true := by rw [hcx]; simp
            have HDD : Hid (balD x y c d = d + 1) := Lib.hid (by unfold balD; rw [if_neg hcy, if_pos hcx])
            have y3 : ((d : Int) + 1 == 0) = false := by rw [beq_eq_false_iff_ne]; omega
            have y5 : IntKind.i64.wrap ((d : Int) + 1) = (d : Int) + 1 := i64w _ (by omega)
            clear hcy hcx
            go_wp2_with (go_at_call 52; (with_reducible refine (S2.out).mono ?_); rintro e w1 ⟨rfl, h1, hg1⟩)
            go_roundw
            case rel => exact ⟨k + 1, d + 1, L - 1, by omega, by omega, by omega, by omega, by omega, by omega, by go_num, (by first | rfl | go_num | (congr 1; omega)), Lib.hid h1, Lib.hid (HG.out.trans hg1), Lib.hid (by
              have := HB.out
              rw [List.drop_eq_getElem_cons (by rw [hll]; exact hks), balL_cons, HC.out] at this
              rw [this]
              simp only [HDD.out]
              rw [if_neg (by omega)]
              exact Prod.ext rfl (by simp only []; omega))⟩
            case measure => simp [intOf]; omega
          · have y2 : ((c.toNat : Int) == (x.toNat : Int)) = false := by rw [beq_eq_false_iff_ne]; intro e; exact hcx (UInt8.toNat_inj.1 (by omega))
            have HDD : Hid (balD x y c d = d) := Lib.hid (by unfold balD; rw [if_neg hcy, if_neg hcx])
            have y3 : ((d : Int) == 0) = false := by rw [beq_eq_false_iff_ne]; omega
            clear hcy hcx
            go_wp2_with (go_at_call 52; (with_reducible refine (S2.out).mono ?_); rintro e w1 ⟨rfl, h1, hg1⟩)
            go_roundw
            case rel => exact ⟨k + 1, d, L - 1, by omega, by omega, by omega, by omega, by omega, by omega, by go_num, (by first | rfl | go_num | (congr 1; omega)), Lib.hid h1, Lib.hid (HG.out.trans hg1), Lib.hid (by
              have := HB.out
              rw [List.drop_eq_getElem_cons (by rw [hll]; exact hks), balL_cons, HC.out] at this
              rw [this]
              simp only [HDD.out]
              rw [if_neg (by omega)]
              exact Prod.ext rfl (by simp only []; omega))⟩
            case measure => simp [intOf]; omega
      · have S2 : Hid (Calls Tryd.prog 52 #[.pointer (some ⟨E.mv, 0, none⟩)] W0 fun e w' => e = .returned (.bool false) ∧ Mat E m (L - 1) w' ∧ Ch [E.b] W0 w') := Lib.hid (by have := S1.out; rw [decide_eq_false hL1] at this; exact this)
        have hn1 : Hid (1 ≤ (balL x y (E.s.data.toList.drop k) d k).2) := Lib.hid (by
          rw [List.drop_eq_getElem_cons (by rw [hll]; exact hks), balL_cons]
          split <;> simp)
        clear S1
        go_wp2_with (go_at_call 52; (with_reducible refine (S2.out).mono ?_); rintro e w1 ⟨rfl, h1, hg1⟩)
        go_ret2
        refine ⟨?_, HG.out.trans hg1⟩
        unfold BalSaid
        have e2 : n = _ := congrArg Prod.snd HB.out
        simp only [] at e2
        have := hn1.out
        rw [if_neg (by omega)]
        exact ⟨rfl, by rw [show (-1 : Int) = L - 1 by omega]; exact h1⟩
    · have hks' : ¬ (k : Int) < (E.s.size : Int) := by omega
      go_wp2
      go_ret2
      refine ⟨?_, HG.out⟩
      unfold BalSaid
      have hb := HB.out
      rw [List.drop_eq_nil_of_le (by rw [hll]; omega)] at hb
      have e1 : o = none := congrArg Prod.fst hb
      have e2 : n = 0 + (k - (i + 1)) := congrArg Prod.snd hb
      rw [if_pos (by omega), e1, show left - (n : Int) = L by omega]
      exact ⟨rfl, HM.out⟩
set_option maxHeartbeats 1000000 in
theorem balanced_no (E : Env) (m : Caps) (left : Int) (i : Nat) (x y : UInt8) (w : World) (hs : E.s.size ≤ 1000000) (hi : i ≤ E.s.size) (hx : ¬ E.s.data.toList[i]? = some x) (v : Value) :
    Calls Tryd.prog 81 #[.string E.s, .int .i64 (i : Int), .int .u8 (x.toNat : Int), .int .u8 (y.toNat : Int), v] w fun e w' => e = .returned (.tuple #[.int .i64 0, .bool false]) ∧ w = w' := by
  by_cases his : i < E.s.size
  · have hii : ((i : Int) == (E.s.size : Int)) = false := by rw [beq_eq_false_iff_ne]; omega
    have hi0 : 0 ≤ (i : Int) := by omega
    have hilt : (i : Int) < (E.s.size : Int) := by omega
    have hxne : ((E.s[i].toNat : Int) != (x.toNat : Int)) = true := by
      rw [bne_iff_ne]; intro e; exact hx (by rw [get_some _ _ his]; exact congrArg some (UInt8.toNat_inj.1 (by omega)))
    clear hx
    go_enter Tryd.func81, Tryd.ntmps81
    go_wp2
    go_ret2
    exact ⟨rfl, rfl⟩
  · have hii : ((i : Int) == (E.s.size : Int)) = true := by rw [beq_iff_eq]; omega
    clear hx
    go_enter Tryd.func81, Tryd.ntmps81
    go_wp2
    go_ret2
    exact ⟨rfl, rfl⟩
end Go.Proofs.YtkbcaklleiapdaaDoor
