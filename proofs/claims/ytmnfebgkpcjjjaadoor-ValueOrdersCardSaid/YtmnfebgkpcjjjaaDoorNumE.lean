/- Contracts of layer 2: numerals and their numbers. -/
import Derived.Test.YtmnfebgkpcjjjaaDoorNumD
namespace Go.Proofs.YtmnfebgkpcjjjaaDoor
open Go.RowKit M1 M2
set_option linter.unusedVariables false

theorem dot_iff (s : ByteArray) (n : Nat) (h : n < s.size) : s.data.toList[n]? = some 46 ↔ ((s[n].toNat : Int) == 46) = true := by
  rw [List.getElem?_eq_getElem (by simpa using h), beq_iff_eq]
  show some s[n] = some 46 ↔ _
  rw [Option.some.injEq, ← UInt8.toNat_inj]
  show s[n].toNat = 46 ↔ _
  omega
theorem measure_any (s : ByteArray) (w : World) (hs : s.size ≤ 4000000000) :
    Calls Tryd.prog 74 #[.string s] w fun e w' => e = .returned (msV (meas s.data.toList)) ∧ Below w.heap.size w w' := by
  cases h : hexp s.data.toList with
  | true =>
    obtain ⟨hp, _⟩ := (hexp_iff _).1 h
    cases hp1 : Lib.hasPrefix s.data.toList [48, 120] with
    | true =>
      cases hp2 : Lib.hasPrefix s.data.toList [48, 88] with
      | true =>
        have h1 := ((pre2 _ _ _).1 hp1).2
        have h2 := ((pre2 _ _ _).1 hp2).2
        rw [h1] at h2; simp at h2
      | false => exact measure_hex1 s w hs h hp1 hp2
    | false =>
      have hp2 : Lib.hasPrefix s.data.toList [48, 88] = true := by
        rcases hp with hp | hp
        · rw [hp1] at hp; cases hp
        · exact hp
      exact measure_hex2 s w hs h hp1 hp2
  | false =>
    have hcl := cnt_le 10 s.data.toList
    rw [list_size] at hcl
    have hfr : ∀ b, frac s.data.toList = b → b = decide (0 < cnt 10 s.data.toList ∧ s.data.toList[cnt 10 s.data.toList]? = some 46 ∧ 0 < cnt 10 (s.data.toList.drop (cnt 10 s.data.toList + 1))) := fun b hb => hb.symm
    cases hp1 : Lib.hasPrefix s.data.toList [48, 120] with
    | true =>
      cases hp2 : Lib.hasPrefix s.data.toList [48, 88] with
      | true =>
        have h1 := ((pre2 _ _ _).1 hp1).2
        have h2 := ((pre2 _ _ _).1 hp2).2
        rw [h1] at h2; simp at h2
      | false =>
        obtain ⟨n, hn⟩ : ∃ n, cnt 10 s.data.toList = n := ⟨_, rfl⟩
        rw [hn] at hcl hfr
        by_cases h0 : n = 0
        · exact measure_xa s w hs h hp1 hp2 n hn h0 (by rw [hfr _ rfl, decide_eq_false_iff_not]; omega)
        · by_cases h1 : n = s.size
          · exact measure_xb s w hs h hp1 hp2 n hn (by omega) h1 (by rw [hfr _ rfl, decide_eq_false_iff_not]; rintro ⟨_, hx, _⟩; rw [List.getElem?_eq_none (by rw [list_size]; omega)] at hx; cases hx)
          · have h1' : n < s.size := by omega
            have hdi := dot_iff s n h1'
            cases h2 : ((s[n].toNat : Int) == 46) with
            | false => exact measure_xc s w hs h hp1 hp2 n hn (by omega) h1' h2 (by rw [hfr _ rfl, decide_eq_false_iff_not]; rintro ⟨_, hx, _⟩; rw [hdi, h2] at hx; cases hx)
            | true =>
              obtain ⟨m, hm⟩ : ∃ m, cnt 10 (s.data.toList.drop (n + 1)) = m := ⟨_, rfl⟩
              rw [hm] at hfr
              by_cases h3 : m = 0
              · exact measure_xd s w hs h hp1 hp2 n hn (by omega) h1' h2 m hm h3 (by rw [hfr _ rfl, decide_eq_false_iff_not]; omega)
              · exact measure_xe s w hs h hp1 hp2 n hn (by omega) h1' h2 m hm (by omega) (by rw [hfr _ rfl, decide_eq_true_iff]; exact ⟨by omega, hdi.2 h2, by omega⟩)
    | false =>
      cases hp2 : Lib.hasPrefix s.data.toList [48, 88] with
      | true =>
        obtain ⟨n, hn⟩ : ∃ n, cnt 10 s.data.toList = n := ⟨_, rfl⟩
        rw [hn] at hcl hfr
        by_cases h0 : n = 0
        · exact measure_Xa s w hs h hp1 hp2 n hn h0 (by rw [hfr _ rfl, decide_eq_false_iff_not]; omega)
        · by_cases h1 : n = s.size
          · exact measure_Xb s w hs h hp1 hp2 n hn (by omega) h1 (by rw [hfr _ rfl, decide_eq_false_iff_not]; rintro ⟨_, hx, _⟩; rw [List.getElem?_eq_none (by rw [list_size]; omega)] at hx; cases hx)
          · have h1' : n < s.size := by omega
            have hdi := dot_iff s n h1'
            cases h2 : ((s[n].toNat : Int) == 46) with
            | false => exact measure_Xc s w hs h hp1 hp2 n hn (by omega) h1' h2 (by rw [hfr _ rfl, decide_eq_false_iff_not]; rintro ⟨_, hx, _⟩; rw [hdi, h2] at hx; cases hx)
            | true =>
              obtain ⟨m, hm⟩ : ∃ m, cnt 10 (s.data.toList.drop (n + 1)) = m := ⟨_, rfl⟩
              rw [hm] at hfr
              by_cases h3 : m = 0
              · exact measure_Xd s w hs h hp1 hp2 n hn (by omega) h1' h2 m hm h3 (by rw [hfr _ rfl, decide_eq_false_iff_not]; omega)
              · exact measure_Xe s w hs h hp1 hp2 n hn (by omega) h1' h2 m hm (by omega) (by rw [hfr _ rfl, decide_eq_true_iff]; exact ⟨by omega, hdi.2 h2, by omega⟩)
      | false =>
        obtain ⟨n, hn⟩ : ∃ n, cnt 10 s.data.toList = n := ⟨_, rfl⟩
        rw [hn] at hcl hfr
        by_cases h0 : n = 0
        · exact measure_na s w hs h hp1 hp2 n hn h0 (by rw [hfr _ rfl, decide_eq_false_iff_not]; omega)
        · by_cases h1 : n = s.size
          · exact measure_nb s w hs h hp1 hp2 n hn (by omega) h1 (by rw [hfr _ rfl, decide_eq_false_iff_not]; rintro ⟨_, hx, _⟩; rw [List.getElem?_eq_none (by rw [list_size]; omega)] at hx; cases hx)
          · have h1' : n < s.size := by omega
            have hdi := dot_iff s n h1'
            cases h2 : ((s[n].toNat : Int) == 46) with
            | false => exact measure_nc s w hs h hp1 hp2 n hn (by omega) h1' h2 (by rw [hfr _ rfl, decide_eq_false_iff_not]; rintro ⟨_, hx, _⟩; rw [hdi, h2] at hx; cases hx)
            | true =>
              obtain ⟨m, hm⟩ : ∃ m, cnt 10 (s.data.toList.drop (n + 1)) = m := ⟨_, rfl⟩
              rw [hm] at hfr
              by_cases h3 : m = 0
              · exact measure_nd s w hs h hp1 hp2 n hn (by omega) h1' h2 m hm h3 (by rw [hfr _ rfl, decide_eq_false_iff_not]; omega)
              · exact measure_ne s w hs h hp1 hp2 n hn (by omega) h1' h2 m hm (by omega) (by rw [hfr _ rfl, decide_eq_true_iff]; exact ⟨by omega, hdi.2 h2, by omega⟩)

theorem number_long (B : Int) (wh bh : ByteArray) (f : Int) (w : World) (hB : B = 10 ∨ B = 16) (hw : wh.size ≤ 4000000000) (hb : bh.size ≤ 4000000000) (hl : 9 < bh.size) :
    Calls Tryd.prog 75 #[.agg #[.int .i64 B, .string wh, .string bh, .int .i64 f]] w fun e w' => e = .returned (.tuple #[.agg #[.int .i64 (numR ⟨B, wh.data.toList, bh.data.toList, 0⟩).P, .int .i64 (numR ⟨B, wh.data.toList, bh.data.toList, 0⟩).Q], .int .i64 (numR ⟨B, wh.data.toList, bh.data.toList, 0⟩).E]) ∧ Below w.heap.size w w' := by
  have hB1 : 2 ≤ B := by omega
  have hB2 : B ≤ 16 := by omega
  have hbl : bh.data.toList.length = bh.size := list_size bh
  rw [show numR ⟨B, wh.data.toList, bh.data.toList, 0⟩ = err 6 by unfold numR; rw [if_pos (by show 9 < bh.data.toList.length; omega)]]
  clear hbl hB
  go_enter Tryd.func75, Tryd.ntmps75
  go_wp2
  refine bodyPost_ret (v := .tuple #[.agg #[.int .i64 0, .int .i64 0], .int .i64 6]) (by simp [results, Tryd.results75, go_sem, *]) rfl ?_
  refine ⟨rfl, ?_⟩
  repeat (first | exact Below.refl _ _ | refine below_drewN ?_ _ | refine Below.drew ?_ | refine Below.setCell ?_ (by first | omega | (simp; done) | (simp; omega)) _ | refine Below.alloc ?_ (by first | omega | (simp; done) | (simp; omega)) _ | refine below_step (by assumption) (by first | omega | (simp; done) | (simp; omega)) ?_)

theorem number_no1 (B : Int) (wh bh : ByteArray) (f : Int) (w : World) (hB : B = 10 ∨ B = 16) (hw : wh.size ≤ 4000000000) (hb : bh.size ≤ 4000000000) (hl : bh.size ≤ 9) (ha : alld B wh.data.toList) (hj : jn B 0 wh.data.toList = none) :
    Calls Tryd.prog 75 #[.agg #[.int .i64 B, .string wh, .string bh, .int .i64 f]] w fun e w' => e = .returned (.tuple #[.agg #[.int .i64 (numR ⟨B, wh.data.toList, bh.data.toList, 0⟩).P, .int .i64 (numR ⟨B, wh.data.toList, bh.data.toList, 0⟩).Q], .int .i64 (numR ⟨B, wh.data.toList, bh.data.toList, 0⟩).E]) ∧ Below w.heap.size w w' := by
  have hB1 : 2 ≤ B := by omega
  have hB2 : B ≤ 16 := by omega
  have hbl : bh.data.toList.length = bh.size := list_size bh
  rw [show numR ⟨B, wh.data.toList, bh.data.toList, 0⟩ = err 6 by unfold numR; rw [if_neg (by show ¬ 9 < bh.data.toList.length; omega)]; simp only [jn_app, hj]; rfl]
  have J1 : Hid (∀ w, Calls Tryd.prog 87 #[.int .i64 0, .string wh, .int .i64 B] w fun e w' => e = .returned (.tuple #[.int .i64 0, .bool false]) ∧ w = w') := Lib.hid fun w => join_none wh B 0 w hw hB1 hB2 (Int.le_refl _) (by omega) ha hj
  clear hbl hB ha hj
  go_enter Tryd.func75, Tryd.ntmps75
  go_wp2_with (go_at_call 87; (with_reducible refine (J1.out _).mono ?_); rintro e w' ⟨rfl, rfl⟩)
  refine bodyPost_ret (v := .tuple #[.agg #[.int .i64 0, .int .i64 0], .int .i64 6]) (by simp [results, Tryd.results75, go_sem, *]) rfl ?_
  refine ⟨rfl, ?_⟩
  repeat (first | exact Below.refl _ _ | refine below_drewN ?_ _ | refine Below.drew ?_ | refine Below.setCell ?_ (by first | omega | (simp; done) | (simp; omega)) _ | refine Below.alloc ?_ (by first | omega | (simp; done) | (simp; omega)) _ | refine below_step (by assumption) (by first | omega | (simp; done) | (simp; omega)) ?_)

theorem number_no2 (B : Int) (wh bh : ByteArray) (f : Int) (w : World) (hB : B = 10 ∨ B = 16) (hw : wh.size ≤ 4000000000) (hb : bh.size ≤ 4000000000) (hl : bh.size ≤ 9) (ha : alld B wh.data.toList) (hb3 : alld B bh.data.toList) (p : Int) (hj : jn B 0 wh.data.toList = some p) (hk : jn B p bh.data.toList = none) :
    Calls Tryd.prog 75 #[.agg #[.int .i64 B, .string wh, .string bh, .int .i64 f]] w fun e w' => e = .returned (.tuple #[.agg #[.int .i64 (numR ⟨B, wh.data.toList, bh.data.toList, 0⟩).P, .int .i64 (numR ⟨B, wh.data.toList, bh.data.toList, 0⟩).Q], .int .i64 (numR ⟨B, wh.data.toList, bh.data.toList, 0⟩).E]) ∧ Below w.heap.size w w' := by
  have hB1 : 2 ≤ B := by omega
  have hB2 : B ≤ 16 := by omega
  have hbl : bh.data.toList.length = bh.size := list_size bh
  rw [show numR ⟨B, wh.data.toList, bh.data.toList, 0⟩ = err 6 by unfold numR; rw [if_neg (by show ¬ 9 < bh.data.toList.length; omega)]; simp only [jn_app, hj, Option.bind_some, hk]]
  have hp := jn_bd hB1 (Int.le_refl _) (by omega) ha hj
  have J1 : Hid (∀ w, Calls Tryd.prog 87 #[.int .i64 0, .string wh, .int .i64 B] w fun e w' => e = .returned (.tuple #[.int .i64 p, .bool true]) ∧ w = w') := Lib.hid fun w => join_some wh B 0 p w hw hB1 hB2 (Int.le_refl _) (by omega) ha hj
  have J2 : Hid (∀ w, Calls Tryd.prog 87 #[.int .i64 p, .string bh, .int .i64 B] w fun e w' => e = .returned (.tuple #[.int .i64 0, .bool false]) ∧ w = w') := Lib.hid fun w => join_none bh B p w hb hB1 hB2 hp.1 hp.2 hb3 hk
  clear hbl hB ha hj hk hb3
  go_enter Tryd.func75, Tryd.ntmps75
  go_wp2_with (first | (go_at_call 87; (with_reducible refine (J1.out _).mono ?_); rintro e w' ⟨rfl, rfl⟩) | (go_at_call 87; (with_reducible refine (J2.out _).mono ?_); rintro e w' ⟨rfl, rfl⟩))
  refine bodyPost_ret (v := .tuple #[.agg #[.int .i64 0, .int .i64 0], .int .i64 6]) (by simp [results, Tryd.results75, go_sem, *]) rfl ?_
  refine ⟨rfl, ?_⟩
  repeat (first | exact Below.refl _ _ | refine below_drewN ?_ _ | refine Below.drew ?_ | refine Below.setCell ?_ (by first | omega | (simp; done) | (simp; omega)) _ | refine Below.alloc ?_ (by first | omega | (simp; done) | (simp; omega)) _ | refine below_step (by assumption) (by first | omega | (simp; done) | (simp; omega)) ?_)

set_option maxHeartbeats 800000 in
theorem number_yes (B : Int) (wh bh : ByteArray) (f : Int) (w : World) (hB : B = 10 ∨ B = 16) (hw : wh.size ≤ 4000000000) (hb : bh.size ≤ 4000000000) (hl : bh.size ≤ 9) (ha : alld B wh.data.toList) (hb3 : alld B bh.data.toList) (p t : Int) (hj : jn B 0 wh.data.toList = some p) (hk : jn B p bh.data.toList = some t) :
    Calls Tryd.prog 75 #[.agg #[.int .i64 B, .string wh, .string bh, .int .i64 f]] w fun e w' => e = .returned (.tuple #[.agg #[.int .i64 (numR ⟨B, wh.data.toList, bh.data.toList, 0⟩).P, .int .i64 (numR ⟨B, wh.data.toList, bh.data.toList, 0⟩).Q], .int .i64 (numR ⟨B, wh.data.toList, bh.data.toList, 0⟩).E]) ∧ Below w.heap.size w w' := by
  have hB1 : 2 ≤ B := by omega
  have hB2 : B ≤ 16 := by omega
  have hbl : bh.data.toList.length = bh.size := list_size bh
  rw [show numR ⟨B, wh.data.toList, bh.data.toList, 0⟩ = makeR t (10 ^ bh.data.toList.length) by unfold numR; rw [if_neg (by show ¬ 9 < bh.data.toList.length; omega)]; simp only [jn_app, hj, Option.bind_some, hk]]
  rw [hbl]
  have hp := jn_bd hB1 (Int.le_refl _) (by omega) ha hj
  have J1 : Hid (∀ w, Calls Tryd.prog 87 #[.int .i64 0, .string wh, .int .i64 B] w fun e w' => e = .returned (.tuple #[.int .i64 p, .bool true]) ∧ w = w') := Lib.hid fun w => join_some wh B 0 p w hw hB1 hB2 (Int.le_refl _) (by omega) ha hj
  have J2 : Hid (∀ w, Calls Tryd.prog 87 #[.int .i64 p, .string bh, .int .i64 B] w fun e w' => e = .returned (.tuple #[.int .i64 t, .bool true]) ∧ w = w') := Lib.hid fun w => join_some bh B p t w hb hB1 hB2 hp.1 hp.2 hb3 hk
  clear hbl hB ha hj hk hb3
  go_enter Tryd.func75, Tryd.ntmps75
  go_wp2_with (first | (go_at_call 87; (with_reducible refine (J1.out _).mono ?_); rintro e w' ⟨rfl, rfl⟩) | (go_at_call 87; (with_reducible refine (J2.out _).mono ?_); rintro e w' ⟨rfl, rfl⟩))
  go_loop [6, 36] (fun q i => ∃ (k Q : Nat), k ≤ bh.size ∧ q = .int .i64 Q ∧ i = .int .i64 k ∧ Hid (Q = 10 ^ k) ∧ Q ≤ 1000000000) (fun _ i => bh.size - (intOf i).toNat)
  case atStart => exact ⟨0, 1, Nat.zero_le _, rfl, rfl, Lib.hid rfl, by omega⟩
  case round =>
    obtain ⟨k, Q, hk, rfl, rfl, HQ, hQ⟩ := hrel
    by_cases hlt : k < bh.size
    · have hP2 : Q * 10 ≤ 1000000000 := by
        have h1 := HQ.out
        have : 10 ^ (k + 1) ≤ 10 ^ 9 := Nat.pow_le_pow_right (by omega) (by omega)
        rw [Nat.pow_succ] at this
        omega
      go_wp2
      go_round
      case rel =>
        refine ⟨k + 1, Q * 10, by omega, by go_num, by go_num, Lib.hid ?_, hP2⟩
        rw [HQ.out, Nat.pow_succ]
      case measure => simp [intOf]; omega
    · have hks : k = bh.size := by omega
      have HX : Hid (makeR t ((10 : Int) ^ bh.size) = makeR t (Q : Int)) := Lib.hid (by rw [HQ.out, ← hks]; push_cast; rfl)
      clear hks
      go_wp2_with (go_at_call 88; refine (make_any _ _ _).mono ?_; rintro e w1 ⟨rfl, hb1⟩; obtain ⟨hc1, hf1⟩ := bcell hb1; have hz := hb1.size; (try simp at hz); (try (have z1_0 : w.heap.size < w1.heap.size := (by omega))); (try (have z1_1 : w.heap.size + 1 < w1.heap.size := (by omega))); clear hz)
      refine bodyPost_ret (v := .tuple #[.agg #[.int .i64 (makeR t (Q : Int)).P, .int .i64 (makeR t (Q : Int)).Q], .int .i64 (makeR t (Q : Int)).E]) (by simp [results, Tryd.results75, go_sem, *]) rfl ?_
      refine ⟨by rw [HX.out], ?_⟩
      repeat (first | exact Below.refl _ _ | refine below_drewN ?_ _ | refine Below.drew ?_ | refine Below.setCell ?_ (by first | omega | (simp; done) | (simp; omega)) _ | refine Below.alloc ?_ (by first | omega | (simp; done) | (simp; omega)) _ | refine below_step (by assumption) (by first | omega | (simp; done) | (simp; omega)) ?_)
theorem number_any (B : Int) (wh bh : ByteArray) (f : Int) (w : World) (hB : B = 10 ∨ B = 16) (hw : wh.size ≤ 4000000000) (hb : bh.size ≤ 4000000000) (ha : alld B wh.data.toList) (hb3 : alld B bh.data.toList) :
    Calls Tryd.prog 75 #[.agg #[.int .i64 B, .string wh, .string bh, .int .i64 f]] w fun e w' => e = .returned (.tuple #[.agg #[.int .i64 (numR ⟨B, wh.data.toList, bh.data.toList, 0⟩).P, .int .i64 (numR ⟨B, wh.data.toList, bh.data.toList, 0⟩).Q], .int .i64 (numR ⟨B, wh.data.toList, bh.data.toList, 0⟩).E]) ∧ Below w.heap.size w w' := by
  by_cases hl : 9 < bh.size
  · exact number_long B wh bh f w hB hw hb hl
  · cases hj : jn B 0 wh.data.toList with
    | none => exact number_no1 B wh bh f w hB hw hb (by omega) ha hj
    | some p =>
      cases hk : jn B p bh.data.toList with
      | none => exact number_no2 B wh bh f w hB hw hb (by omega) ha hb3 p hj hk
      | some t => exact number_yes B wh bh f w hB hw hb (by omega) ha hb3 p t hj hk
end Go.Proofs.YtmnfebgkpcjjjaaDoor
