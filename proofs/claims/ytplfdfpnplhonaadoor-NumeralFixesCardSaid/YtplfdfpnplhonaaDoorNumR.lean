/- Contracts of layer 2: the reference's decimals. -/
import Derived.Test.YtplfdfpnplhonaaDoorNumS
import Derived.Deep.DeepCutAuto
import Derived.Deep.CutBlock
namespace Go.Proofs.YtplfdfpnplhonaaDoor
open Go.RowKit Go.Sort M1 M2
set_option linter.unusedVariables false
theorem fix_dn {A Q k R L : Nat} (hQ : 0 < Q) (hR : R = fixR (A % Q) Q k) (hL : L % 2 = fixN A Q k % 2) (h : ¬ (Q < 2 * R ∨ (2 * R = Q ∧ L % 2 = 1))) : fixT A Q k / 10 ^ k = A / Q ∧ fixT A Q k % 10 ^ k = fixN (A % Q) Q k := by
  have hN := fixN_lt (A % Q) Q k (Nat.mod_lt _ hQ)
  obtain ⟨e1, e2⟩ := fixT_div A Q k hQ
  have hu : up (fixN A Q k) (fixR A Q k) Q = 0 := by
    unfold up; rw [if_neg]; rw [(fix_split A Q k hQ).2, ← hR, ← hL]; exact h
  rw [e1, e2, hu, Nat.add_zero, Nat.div_eq_of_lt hN, Nat.mod_eq_of_lt hN]
  exact ⟨rfl, rfl⟩
theorem fix_up {A Q k R L : Nat} (hQ : 0 < Q) (hR : R = fixR (A % Q) Q k) (hL : L % 2 = fixN A Q k % 2) (h : Q < 2 * R ∨ (2 * R = Q ∧ L % 2 = 1)) :
    inc (pad k (fixN (A % Q) Q k)) = (pad k (fixT A Q k % 10 ^ k), decide (fixN (A % Q) Q k + 1 = 10 ^ k)) ∧ fixT A Q k / 10 ^ k = A / Q + if fixN (A % Q) Q k + 1 = 10 ^ k then 1 else 0 := by
  have hN := fixN_lt (A % Q) Q k (Nat.mod_lt _ hQ)
  obtain ⟨e1, e2⟩ := fixT_div A Q k hQ
  have hu : up (fixN A Q k) (fixR A Q k) Q = 1 := by
    unfold up; rw [if_pos]; rw [(fix_split A Q k hQ).2, ← hR, ← hL]; exact h
  rw [e1, e2, hu]
  refine ⟨inc_pad k _ hN, ?_⟩
  congr 1
  split
  · rename_i h1; rw [h1]; exact Nat.div_self (pow_pos10 k)
  · exact Nat.div_eq_of_lt (by omega)
theorem dc_int {d : Nat} (h : d < 10) : ((dc d).toNat : Int) = 48 + (d : Int) := by rw [dc_nat (by omega), if_pos h]; push_cast; rfl
/-- What the call has made so far lies behind the number's box. -/
def St (w wx : World) (p q : Int) : Prop := RowKit.Below (w.heap.size + 1) (w.alloc (.cells #[.int .i64 p, .int .i64 q] 23)) wx
theorem St.c0 {w wx : World} {p q : Int} (h : St w wx p q) : wx.cell? ⟨w.heap.size, 0, none⟩ = some (.int .i64 p) := by rw [RowKit.Below.cell h (p := ⟨w.heap.size, 0, none⟩) (by simp)]; go_simp
theorem St.c1 {w wx : World} {p q : Int} (h : St w wx p q) : wx.cell? ⟨w.heap.size, 1, none⟩ = some (.int .i64 q) := by rw [RowKit.Below.cell h (p := ⟨w.heap.size, 1, none⟩) (by simp)]; go_simp
theorem St.size {w wx : World} {p q : Int} (h : St w wx p q) : w.heap.size + 1 ≤ wx.heap.size := by have := RowKit.Below.size h; simpa using this
theorem St.fin {w wx : World} {p q : Int} (h : St w wx p q) : RowKit.Below w.heap.size w wx := ((RowKit.Below.refl _ _).alloc (Nat.le_refl _) _).trans (RowKit.Below.mono h (by omega))
theorem St.on {w wx wy : World} {p q : Int} (h : St w wx p q) (hb : RowKit.Below (w.heap.size + 1) wx wy) : St w wy p q := RowKit.Below.trans h hb

theorem rfix_inv (p q k : Int) (w : World) (hv : vld p q = false) :
    Calls Tryd.prog 21 #[.agg #[.int .i64 p, .int .i64 q], .int .i64 k] w fun e w' => e = .returned (.tuple #[.string (mkB (fixS p q k)), .int .i64 (fixE p q k)]) ∧ RowKit.Below w.heap.size w w' := by
  rw [show fixS p q k = [] by unfold fixS; rw [if_neg (by simp [hv])], show fixE p q k = 2 by unfold fixE; rw [if_neg (by simp [hv])]]
  go_enter Tryd.func21, Tryd.ntmps21
  go_wp2_with (go_at_call 24; refine (rvalid_any _ _ _).mono ?_; rintro e w1 ⟨rfl, hb1⟩; obtain ⟨hc1, hf1⟩ := bcell hb1; have hz := hb1.size; (try simp at hz); (try (have z1_0 : w.heap.size < w1.heap.size := (by omega))); (try (have z1_1 : w.heap.size + 1 < w1.heap.size := (by omega))); clear hz)
  go_ret2
  refine ⟨rfl, ?_⟩
  repeat (first | exact Below.refl _ _ | refine below_drewN ?_ _ | refine Below.drew ?_ | refine Below.setCell ?_ (by first | omega | (simp; done) | (simp; omega)) _ | refine Below.alloc ?_ (by first | omega | (simp; done) | (simp; omega)) _ | refine below_step (by assumption) (by first | omega | (simp; done) | (simp; omega)) ?_)
theorem rfix_out (p q k : Int) (w : World) (hv : vld p q = true) (hk : k < 0 ∨ 12 < k) :
    Calls Tryd.prog 21 #[.agg #[.int .i64 p, .int .i64 q], .int .i64 k] w fun e w' => e = .returned (.tuple #[.string (mkB (fixS p q k)), .int .i64 (fixE p q k)]) ∧ RowKit.Below w.heap.size w w' := by
  rw [show fixS p q k = [] by unfold fixS; rw [if_neg (by omega)], show fixE p q k = 2 by unfold fixE; rw [if_neg (by omega)]]
  by_cases h0 : k < 0
  · go_enter Tryd.func21, Tryd.ntmps21
    go_wp2_with (go_at_call 24; refine (rvalid_any _ _ _).mono ?_; rintro e w1 ⟨rfl, hb1⟩; obtain ⟨hc1, hf1⟩ := bcell hb1; have hz := hb1.size; (try simp at hz); (try (have z1_0 : w.heap.size < w1.heap.size := (by omega))); (try (have z1_1 : w.heap.size + 1 < w1.heap.size := (by omega))); clear hz)
    go_ret2
    refine ⟨rfl, ?_⟩
    repeat (first | exact Below.refl _ _ | refine below_drewN ?_ _ | refine Below.drew ?_ | refine Below.setCell ?_ (by first | omega | (simp; done) | (simp; omega)) _ | refine Below.alloc ?_ (by first | omega | (simp; done) | (simp; omega)) _ | refine below_step (by assumption) (by first | omega | (simp; done) | (simp; omega)) ?_)
  · have h1 : 12 < k := by omega
    go_enter Tryd.func21, Tryd.ntmps21
    go_wp2_with (go_at_call 24; refine (rvalid_any _ _ _).mono ?_; rintro e w1 ⟨rfl, hb1⟩; obtain ⟨hc1, hf1⟩ := bcell hb1; have hz := hb1.size; (try simp at hz); (try (have z1_0 : w.heap.size < w1.heap.size := (by omega))); (try (have z1_1 : w.heap.size + 1 < w1.heap.size := (by omega))); clear hz)
    go_ret2
    refine ⟨rfl, ?_⟩
    repeat (first | exact Below.refl _ _ | refine below_drewN ?_ _ | refine Below.drew ?_ | refine Below.setCell ?_ (by first | omega | (simp; done) | (simp; omega)) _ | refine Below.alloc ?_ (by first | omega | (simp; done) | (simp; omega)) _ | refine below_step (by assumption) (by first | omega | (simp; done) | (simp; omega)) ?_)

set_option maxHeartbeats 8000000 in
set_option maxRecDepth 100000 in
theorem rfix_pos (A Q k : Nat) (w : World) (hA : A ≤ 2147483647) (hQ : 0 < Q) (hQ2 : Q ≤ 2147483647) (hv : vld (A : Int) (Q : Int) = true) (hk : k ≤ 12) :
    Calls Tryd.prog 21 #[.agg #[.int .i64 (A : Int), .int .i64 (Q : Int)], .int .i64 (k : Int)] w fun e w' => e = .returned (.tuple #[.string (mkB (fixL (A : Int) Q k)), .int .i64 0]) ∧ RowKit.Below w.heap.size w w' := by
  obtain ⟨i0, hi, hz0, hz1, hz2⟩ := info_parts infoByte
  have V1 : Hid (∀ w, Calls Tryd.prog 24 #[.agg #[.int .i64 (A : Int), .int .i64 (Q : Int)]] w fun e w' => e = .returned (.bool true) ∧ RowKit.Below w.heap.size w w') := Lib.hid fun w => by have h := rvalid_any (A : Int) (Q : Int) w; rw [hv] at h; exact h
  clear hv
  have HD1 : Hid ((A : Int) / (Q : Int) = ((A / Q : Nat) : Int)) := Lib.hid (by push_cast; rfl)
  have HM1 : Hid ((A : Int) % (Q : Int) = ((A % Q : Nat) : Int)) := Lib.hid (by push_cast; rfl)
  have HD2 : Hid (((A / Q : Nat) : Int) % 10 = ((A / Q % 10 : Nat) : Int)) := Lib.hid (by push_cast; rfl)
  go_enter Tryd.func21, Tryd.ntmps21
  go_upto_region 1 with fail
  go_upto_region 3 with (go_at_call 24; (with_reducible refine (V1.out _).mono ?_); rintro e w1 ⟨rfl, hb1⟩; obtain ⟨hc1, hf1⟩ := bcell hb1; have hz := hb1.size; (try simp at hz); have z0 : w.heap.size < w1.heap.size := (by omega); have z1 : w.heap.size + 1 ≤ w1.heap.size := (by omega); clear hz)
  have hs1 : St w w1 (A : Int) (Q : Int) := (RowKit.Below.refl _ _).trans (by simpa using hb1)
  have HS1 := Lib.hid hs1
  clear hs1 hb1 hc1 hf1
  have k0 := HS1.out.c0
  have k1 := HS1.out.c1
  have q0 : 0 ≤ (A : Int) / (Q : Int) := by rw [HD1.out]; exact Int.natCast_nonneg _
  have q1 : (A : Int) / (Q : Int) ≤ 2147483647 := by have hdq : A / Q ≤ A := Nat.div_le_self _ _; rw [HD1.out]; omega
  go_upto_region 4 with fail
  go_upto_region 6 with fail
  go_upto_region 7 with fail
  go_upto_region 8 with fail
  go_upto_region 9 with fail
  go_upto_region 10 with fail
  clear q0 q1 k0 k1
  go_upto_block 0 with fail
  go_cut [8, 9, 10, 11] (fun v8 v9 v10 v11 wx => ∃ (R L g cap : Nat) (l : List UInt8), v8 = .int .i64 R ∧ v9 = .slice (some ⟨g, 0, none⟩) l.length cap ∧ v10 = .int .i64 L ∧ v11 = .int .i64 k ∧ R < Q ∧ L ≤ 2147483647 ∧ l.length = k ∧ Hid (R = fixR (A % Q) Q k) ∧ Hid (L % 2 = fixN A Q k % 2) ∧ Hid (l = pad k (fixN (A % Q) Q k)) ∧ Hid (OwnB (w.heap.size + 1) wx g cap (l)) ∧ Hid (St w wx (A : Int) (Q : Int)))
  case first =>
    go_wp2_with fail
    go_loopw [8, 9, 10, 11] (fun v8 v9 v10 v11 wr => ∃ (i R L g cap : Nat) (l : List UInt8), i ≤ k ∧ v8 = .int .i64 R ∧ v9 = .slice (some ⟨g, 0, none⟩) l.length cap ∧ v10 = .int .i64 L ∧ v11 = .int .i64 i ∧ R < Q ∧ L ≤ 2147483647 ∧ l.length = i ∧ Hid (R = fixR (A % Q) Q i) ∧ Hid (L % 2 = fixN A Q i % 2) ∧ Hid (l = pad i (fixN (A % Q) Q i)) ∧ Hid (OwnB (w.heap.size + 1) wr g cap (l)) ∧ Hid (St w wr (A : Int) (Q : Int))) (fun _ _ _ vi _ => k - (intOf vi).toNat)
    case atStart =>
      refine ⟨0, A % Q, A / Q % 10, w1.heap.size, 0, [], by omega, by rw [HM1.out], rfl, by rw [HD1.out, HD2.out], rfl, (Nat.mod_lt _ hQ), by omega, rfl, Lib.hid (fixN_zero _ _ (Nat.mod_lt _ hQ)).2.symm, Lib.hid ?_, Lib.hid rfl, Lib.hid (own_empty w1 _ z1), Lib.hid (HS1.out.on ((RowKit.Below.refl _ _).alloc z1 _))⟩
      have : fixN A Q 0 = A / Q := by unfold fixN; simp
      rw [this]; omega
    case round =>
      obtain ⟨i, R, L, g, cap, l, hik, rfl, rfl, rfl, rfl, hR, hL, hll, HR, HL, HP, HO, HS⟩ := hrel
      rename World => W0
      have k0 := HS.out.c0
      have k1 := HS.out.c1
      have ksz := HS.out.size
      by_cases hlt : i < k
      · have hd10 : R * 10 / Q < 10 := by rw [Nat.div_lt_iff_lt_mul hQ]; omega
        have hdm : R * 10 % Q < Q := Nat.mod_lt _ hQ
        have HDQ : Hid ((R : Int) * 10 / (Q : Int) = ((R * 10 / Q : Nat) : Int)) := Lib.hid (by push_cast; rfl)
        have HMQ : Hid ((R : Int) * 10 % (Q : Int) = ((R * 10 % Q : Nat) : Int)) := Lib.hid (by push_cast; rfl)
        have d0 : 0 ≤ (R : Int) * 10 / (Q : Int) := by rw [HDQ.out]; exact Int.natCast_nonneg _
        have d1 : (R : Int) * 10 / (Q : Int) < 10 := by rw [HDQ.out]; omega
        have HDC : Hid (((dc (R * 10 / Q)).toNat : Int) = 48 + (R : Int) * 10 / (Q : Int)) := Lib.hid (by rw [HDQ.out]; exact dc_int hd10)
        have hsplit := fix_split A Q i hQ
        have hs1 := fixN_succ A Q i hQ
        have hs2 := fixN_succ (A % Q) Q i hQ
        have HN1 : Hid (R * 10 % Q = fixR (A % Q) Q (i + 1)) := Lib.hid (by rw [hs2.2, ← HR.out])
        have HN2 : Hid (R * 10 / Q % 2 = fixN A Q (i + 1) % 2) := Lib.hid (by rw [hs1.1, hsplit.2, ← HR.out]; omega)
        have HN3 : Hid (l ++ [dc (R * 10 / Q)] = pad (i + 1) (fixN (A % Q) Q (i + 1))) := Lib.hid (by rw [hs2.1, ← HR.out, pad_snoc _ _ _ hd10, ← HP.out])
        have hown := HO.out
        unfold OwnB at hown
        have HOW := Lib.hid hown
        have hl13 : l.length ≤ 13 := by omega
        have HLL := Lib.hid hll
        clear hown hsplit hs1 hs2 hll
        go_wp2_with (at_builtin; refine wpList_append_own _ rfl _ _ 59 rfl (w.heap.size + 1) 5 i0 (.int .u8 0) 1 1 Tryd.underlying59 hi hz0 hz1 hz2 rfl (by decide) _ _ _ rfl (HOW.out.alloc _) ⟨W0.heap.size, 0, none⟩ 1 1 [.int .u8 ((dc (R * 10 / Q)).toNat : Int)] rfl rfl (by intro j u' hj; match j, hj with | 0, hj => simp at hj; subst hj; simp [Addr.add]; (try rw [HDC.out])) (by intro u' hu'; simp at hu'; subst hu'; rfl) (by unfold maxLen; omega) (by omega) (by simp; omega) ?_)
        intro v1 W2 hown1 hgrow _
        obtain ⟨g1, cap1, hv1, hO1⟩ := own_shape hown1
        rw [hv1]
        have HS2 : Hid (St w W2 (A : Int) (Q : Int)) := Lib.hid (HS.out.on (below_own ((RowKit.Below.refl _ _).alloc (by omega) _) hgrow (by simp; omega) (own_lt HO.out).1))
        have HO2 := Lib.hid hO1
        have hlen : l.length + 1 = (l ++ [dc (R * 10 / Q)]).length := by simp
        have hl1 : (l ++ [dc (R * 10 / Q)]).length = i + 1 := by simp [HLL.out]
        rw [hlen]
        clear hlen hown1 hgrow hO1 hv1 k0 k1
        have k0 := HS2.out.c0
        have k1 := HS2.out.c1
        go_wp2
        go_roundw
        case rel => exact ⟨i + 1, R * 10 % Q, R * 10 / Q, g1, cap1, l ++ [dc (R * 10 / Q)], by omega, by rw [HMQ.out], rfl, by rw [HDQ.out], by go_num, hdm, by omega, hl1, HN1, HN2, HN3, HO2, HS2⟩
        case measure => simp [intOf]; omega
      · obtain rfl : i = k := by omega
        go_wp2
        go_meet
        exact ⟨R, L, g, cap, l, rfl, rfl, rfl, rfl, hR, hL, hll, HR, HL, HP, HO, HS⟩
  case rest =>
    obtain ⟨R, L, g, cap, l, rfl, rfl, rfl, rfl, hR, hL, hll, HR, HL, HP, HO, HS⟩ := hcut
    rename World => W0
    have k0 := HS.out.c0
    have k1 := HS.out.c1
    have ksz := HS.out.size
    have hl12 : l.length ≤ 12 := by omega
    have HLL := Lib.hid hll
    clear hll
    go_upto_region 17 with fail
    go_cut [80] (fun v80 wx => v80 = .bool (decide (Q < 2 * R ∨ (2 * R = Q ∧ L % 2 = 1))) ∧ wx = W0)
    case first =>
      by_cases hgt : Q < 2 * R
      · have hgt' : (Q : Int) < (R : Int) * 2 := by omega
        have heq := hgt
        have hod := hgt
        have HX : Hid (decide (Q < 2 * R ∨ (2 * R = Q ∧ L % 2 = 1)) = true) := Lib.hid (by first | exact decide_eq_true (by omega) | exact decide_eq_false (by omega))
        clear hgt heq hod
        go_wp2
        go_meet
        exact ⟨congrArg Value.bool HX.out.symm, rfl⟩
      · have hgt' : ¬ (Q : Int) < (R : Int) * 2 := by omega
        by_cases heq : 2 * R = Q
        · have heq' : ((R : Int) * 2 == (Q : Int)) = true := by rw [beq_iff_eq]; omega
          by_cases hod : L % 2 = 1
          · have hod' : ((L : Int) % 2 == 1) = true := by rw [beq_iff_eq]; omega
            have HX : Hid (decide (Q < 2 * R ∨ (2 * R = Q ∧ L % 2 = 1)) = true) := Lib.hid (by first | exact decide_eq_true (by omega) | exact decide_eq_false (by omega))
            clear hgt heq hod
            go_wp2
            go_meet
            exact ⟨congrArg Value.bool HX.out.symm, rfl⟩
          · have hod' : ((L : Int) % 2 == 1) = false := by rw [beq_eq_false_iff_ne]; omega
            have HX : Hid (decide (Q < 2 * R ∨ (2 * R = Q ∧ L % 2 = 1)) = false) := Lib.hid (by first | exact decide_eq_true (by omega) | exact decide_eq_false (by omega))
            clear hgt heq hod
            go_wp2
            go_meet
            exact ⟨congrArg Value.bool HX.out.symm, rfl⟩
        · have heq' : ((R : Int) * 2 == (Q : Int)) = false := by rw [beq_eq_false_iff_ne]; omega
          have hod := heq
          have HX : Hid (decide (Q < 2 * R ∨ (2 * R = Q ∧ L % 2 = 1)) = false) := Lib.hid (by first | exact decide_eq_true (by omega) | exact decide_eq_false (by omega))
          clear hgt heq hod
          go_wp2
          go_meet
          exact ⟨congrArg Value.bool HX.out.symm, rfl⟩
    case rest =>
      obtain ⟨rfl, hwc⟩ := hcut
      subst hwc
      rename World => W0
      generalize hdd : decide (Q < 2 * R ∨ (2 * R = Q ∧ L % 2 = 1)) = dd at *
      have HDD := Lib.hid hdd
      clear hdd
      have q0 : 0 ≤ (A : Int) / (Q : Int) := by rw [HD1.out]; exact Int.natCast_nonneg _
      have q1 : (A : Int) / (Q : Int) ≤ 2147483647 := by have hdq : A / Q ≤ A := Nat.div_le_self _ _; rw [HD1.out]; omega
      go_upto_if 80 with fail
      go_cut [7, 9] (fun v7 v9 wx => ∃ (g cap : Nat), v7 = .int .i64 ((fixT A Q k / 10 ^ k : Nat) : Int) ∧ v9 = .slice (some ⟨g, 0, none⟩) (pad k (fixT A Q k % 10 ^ k)).length cap ∧ Hid (OwnB (w.heap.size + 1) wx g cap (pad k (fixT A Q k % 10 ^ k))) ∧ Hid (St w wx (A : Int) (Q : Int)))
      case first =>
        by_cases hup : (Q < 2 * R ∨ (2 * R = Q ∧ L % 2 = 1))
        · obtain rfl : dd = true := by rw [← HDD.out]; exact decide_eq_true hup
          obtain ⟨hinc, hW⟩ := fix_up hQ HR.out HL.out hup
          generalize fixT A Q k % 10 ^ k = F at *
          generalize fixT A Q k / 10 ^ k = WN at *
          by_cases hc : (fixN (A % Q) Q k) + 1 = 10 ^ k
          · rw [if_pos hc] at hW
            rw [decide_eq_true hc] at hinc
            have J1 : Hid (Calls Tryd.prog 40 #[.slice (some ⟨g, 0, none⟩) l.length cap] W0 fun e w' => e = .returned (.tuple #[.slice (some ⟨g, 0, none⟩) l.length cap, .bool true]) ∧ OwnB (w.heap.size + 1) w' g cap (pad k F) ∧ RowKit.Below (w.heap.size + 1) W0 w') := Lib.hid (by
              have h := inc_any (w.heap.size + 1) g cap l W0 HO.out (by omega)
              rw [HP.out, hinc, ← HP.out] at h
              exact h)
            clear hinc hc hup
            go_wp2_with (go_at_call 40; (with_reducible refine (J1.out).mono ?_); rintro e w2 ⟨rfl, hO2, hB2⟩; have hx2 := hB2.size; have HO2 := Lib.hid hO2; have HS2 := Lib.hid (HS.out.on hB2); clear hO2 hB2; have k02 := HS2.out.c0; have k12 := HS2.out.c1)
            go_meet
            exact ⟨g, cap, by rw [hW, HD1.out]; push_cast; rfl, by rw [pad_len, HLL.out], HO2, HS2⟩
          · rw [if_neg hc] at hW
            rw [decide_eq_false hc] at hinc
            have J1 : Hid (Calls Tryd.prog 40 #[.slice (some ⟨g, 0, none⟩) l.length cap] W0 fun e w' => e = .returned (.tuple #[.slice (some ⟨g, 0, none⟩) l.length cap, .bool false]) ∧ OwnB (w.heap.size + 1) w' g cap (pad k F) ∧ RowKit.Below (w.heap.size + 1) W0 w') := Lib.hid (by
              have h := inc_any (w.heap.size + 1) g cap l W0 HO.out (by omega)
              rw [HP.out, hinc, ← HP.out] at h
              exact h)
            clear hinc hc hup
            go_wp2_with (go_at_call 40; (with_reducible refine (J1.out).mono ?_); rintro e w2 ⟨rfl, hO2, hB2⟩; have hx2 := hB2.size; have HO2 := Lib.hid hO2; have HS2 := Lib.hid (HS.out.on hB2); clear hO2 hB2; have k02 := HS2.out.c0; have k12 := HS2.out.c1)
            go_meet
            exact ⟨g, cap, by rw [hW, HD1.out]; rfl, by rw [pad_len, HLL.out], HO2, HS2⟩
        · obtain rfl : dd = false := by rw [← HDD.out]; exact decide_eq_false hup
          have hdn := hup
          obtain ⟨hW, hF⟩ := fix_dn hQ HR.out HL.out hdn
          clear hdn
          go_wp2
          go_meet
          exact ⟨g, cap, by rw [hW, HD1.out], by rw [pad_len, HLL.out], by rw [hF, ← HP.out]; exact HO, HS⟩
      case rest =>
        clear k0 k1 ksz HR HL HP HO HS HLL hl12 hR hL q0 q1 HDD
        obtain ⟨g, cap, rfl, rfl, HO, HS⟩ := hcut
        rename World => W5
        have hTz := fixT_zero A Q k
        have hfl : fixL (A : Int) Q k = (if (A : Int) < 0 ∧ fixT A Q k ≠ 0 then [45] else []) ++ (Lib.decDigits (fixT A Q k / 10 ^ k) ++ (if k = 0 then [] else 46 :: pad k (fixT A Q k % 10 ^ k))) := by
          unfold fixL; rw [show ((A : Int)).natAbs = A by omega]
        have hWl : fixT A Q k / 10 ^ k ≤ 2147483648 := by
          rw [(fixT_div A Q k hQ).1]
          have h2 := fixN_lt (A % Q) Q k (Nat.mod_lt _ hQ)
          have h1 := Nat.div_le_self A Q
          have h3 := up_01 (fixN A Q k) (fixR A Q k) Q
          have h4 : (fixN (A % Q) Q k + up (fixN A Q k) (fixR A Q k) Q) / 10 ^ k ≤ 1 := by
            have hpp := pow_pos10 k
            generalize up (fixN A Q k) (fixR A Q k) Q = u at h3 ⊢
            generalize fixN (A % Q) Q k = m at h2 ⊢
            have : (m + u) / 10 ^ k ≤ 10 ^ k / 10 ^ k := Nat.div_le_div_right (by omega)
            rw [Nat.div_self hpp] at this; exact this
          omega
        have hFl : fixT A Q k % 10 ^ k < 10 ^ k := Nat.mod_lt _ (pow_pos10 k)
        have hpz := pad_zero k (fixT A Q k % 10 ^ k) hFl
        generalize fixT A Q k / 10 ^ k = WN at *
        generalize fixT A Q k % 10 ^ k = F at *
        generalize fixT A Q k = T at *
        have hpl := pad_len k F
        generalize pad k F = l at *
        have hl12 : l.length ≤ 12 := by omega
        clear hpl
        have D1 : Hid (∀ w, Calls Tryd.prog 30 #[.int .i64 (WN : Int)] w fun e w' => e = .returned (.string (mkB (Lib.decDigits WN))) ∧ RowKit.Below w.heap.size w w') := Lib.hid fun w => by
          have := decimal_any (WN : Int) w (by omega) (by omega)
          rw [Lib.itoa_nonneg] at this; exact this
        have hsa : (mkB (Lib.decDigits WN)).size ≤ 30 := by
          rw [mkB_size]; have := Lib.itoa_length_le (WN : Int) (by omega) (by omega); rw [Lib.itoa_nonneg] at this; omega
        have HFL := Lib.hid hfl
        clear hfl hFl
        generalize hsaE : mkB (Lib.decDigits WN) = sa at *
        have HSA := Lib.hid hsaE
        clear hsaE
        have k0 := HS.out.c0
        have k1 := HS.out.c1
        have ksz := HS.out.size
        by_cases hk0 : k = 0
        · have hkp : ¬ 0 < (k : Int) := by omega
          have HK0 := Lib.hid hk0
          clear hk0
          have hsg : ¬ ((A : Int) < 0 ∧ T ≠ 0) := by omega
          have HR : Hid (Ending.returned (.tuple #[.string sa, .int .i64 0]) = .returned (.tuple #[.string (mkB (fixL (A : Int) Q k)), .int .i64 0])) := Lib.hid (by
            rw [HFL.out, if_neg hsg, if_pos HK0.out, ← HSA.out]
            show Ending.returned (.tuple #[.string (mkB (Lib.decDigits WN)), .int .i64 0]) = _
            simp)
          clear hsg
          go_wp2_with (first | (go_at_call 30; (with_reducible refine (D1.out _).mono ?_); rintro e w6 ⟨rfl, hb6⟩; have HS6 := Lib.hid (HS.out.on (hb6.mono ksz)); have HO6 := Lib.hid (own_kept HO.out hb6); have k06 := HS6.out.c0; have k16 := HS6.out.c1; have ksz6 := HS6.out.size; have hcv6 := own_string HO6.out; clear hb6))
          go_ret2
          exact ⟨HR.out, HS6.out.fin⟩
        · have hkp : 0 < (k : Int) := by omega
          have HK0 := Lib.hid hk0
          clear hk0
          have hsg : ¬ ((A : Int) < 0 ∧ T ≠ 0) := by omega
          have a2 : ∀ W, (Op.stringOp .add sa ⟨#[46]⟩).run Tryd.prog W = .ok (.string (sa ++ ⟨#[46]⟩)) W := fun W => run_string_add_sum (w := W) _ _ (by show sa.size + 1 ≤ _; omega)
          have a3 : ∀ W, (Op.stringOp .add (sa ++ ⟨#[46]⟩) (mkB l)).run Tryd.prog W = .ok (.string (sa ++ ⟨#[46]⟩ ++ mkB l)) W := fun W => run_string_add_sum (w := W) _ _ (by rw [mkB_size, ByteArray.size_append]; show sa.size + 1 + _ ≤ _; omega)
          have HR : Hid (Ending.returned (.tuple #[.string (sa ++ ⟨#[46]⟩ ++ mkB l), .int .i64 0]) = .returned (.tuple #[.string (mkB (fixL (A : Int) Q k)), .int .i64 0])) := Lib.hid (by
            rw [HFL.out, if_neg hsg, if_neg HK0.out, ← HSA.out]
            show Ending.returned (.tuple #[.string ((mkB (Lib.decDigits WN) ++ mkB [46] ++ mkB l)), .int .i64 0]) = _
            rw [mkB_app, mkB_app]; simp)
          clear hsg
          go_wp2_with (first | (go_at_call 30; (with_reducible refine (D1.out _).mono ?_); rintro e w6 ⟨rfl, hb6⟩; have HS6 := Lib.hid (HS.out.on (hb6.mono ksz)); have HO6 := Lib.hid (own_kept HO.out hb6); have k06 := HS6.out.c0; have k16 := HS6.out.c1; have ksz6 := HS6.out.size; have hcv6 := own_string HO6.out; clear hb6))
          go_ret2
          exact ⟨HR.out, HS6.out.fin⟩

set_option maxHeartbeats 8000000 in
set_option maxRecDepth 100000 in
theorem rfix_neg (A Q k : Nat) (w : World) (hA0 : 0 < A) (hA : A ≤ 2147483647) (hQ : 0 < Q) (hQ2 : Q ≤ 2147483647) (hv : vld (-(A : Int)) (Q : Int) = true) (hk : k ≤ 12) :
    Calls Tryd.prog 21 #[.agg #[.int .i64 (-(A : Int)), .int .i64 (Q : Int)], .int .i64 (k : Int)] w fun e w' => e = .returned (.tuple #[.string (mkB (fixL (-(A : Int)) Q k)), .int .i64 0]) ∧ RowKit.Below w.heap.size w w' := by
  obtain ⟨i0, hi, hz0, hz1, hz2⟩ := info_parts infoByte
  have V1 : Hid (∀ w, Calls Tryd.prog 24 #[.agg #[.int .i64 (-(A : Int)), .int .i64 (Q : Int)]] w fun e w' => e = .returned (.bool true) ∧ RowKit.Below w.heap.size w w') := Lib.hid fun w => by have h := rvalid_any (-(A : Int)) (Q : Int) w; rw [hv] at h; exact h
  clear hv
  have HD1 : Hid ((A : Int) / (Q : Int) = ((A / Q : Nat) : Int)) := Lib.hid (by push_cast; rfl)
  have HM1 : Hid ((A : Int) % (Q : Int) = ((A % Q : Nat) : Int)) := Lib.hid (by push_cast; rfl)
  have HD2 : Hid (((A / Q : Nat) : Int) % 10 = ((A / Q % 10 : Nat) : Int)) := Lib.hid (by push_cast; rfl)
  go_enter Tryd.func21, Tryd.ntmps21
  go_upto_region 1 with fail
  go_upto_region 3 with (go_at_call 24; (with_reducible refine (V1.out _).mono ?_); rintro e w1 ⟨rfl, hb1⟩; obtain ⟨hc1, hf1⟩ := bcell hb1; have hz := hb1.size; (try simp at hz); have z0 : w.heap.size < w1.heap.size := (by omega); have z1 : w.heap.size + 1 ≤ w1.heap.size := (by omega); clear hz)
  have hs1 : St w w1 (-(A : Int)) (Q : Int) := (RowKit.Below.refl _ _).trans (by simpa using hb1)
  have HS1 := Lib.hid hs1
  clear hs1 hb1 hc1 hf1
  have k0 := HS1.out.c0
  have k1 := HS1.out.c1
  have q0 : 0 ≤ (A : Int) / (Q : Int) := by rw [HD1.out]; exact Int.natCast_nonneg _
  have q1 : (A : Int) / (Q : Int) ≤ 2147483647 := by have hdq : A / Q ≤ A := Nat.div_le_self _ _; rw [HD1.out]; omega
  go_upto_region 4 with fail
  go_upto_region 6 with fail
  go_upto_region 7 with fail
  go_upto_region 8 with fail
  go_upto_region 9 with fail
  go_upto_region 10 with fail
  clear q0 q1 k0 k1
  go_upto_block 0 with fail
  go_cut [8, 9, 10, 11] (fun v8 v9 v10 v11 wx => ∃ (R L g cap : Nat) (l : List UInt8), v8 = .int .i64 R ∧ v9 = .slice (some ⟨g, 0, none⟩) l.length cap ∧ v10 = .int .i64 L ∧ v11 = .int .i64 k ∧ R < Q ∧ L ≤ 2147483647 ∧ l.length = k ∧ Hid (R = fixR (A % Q) Q k) ∧ Hid (L % 2 = fixN A Q k % 2) ∧ Hid (l = pad k (fixN (A % Q) Q k)) ∧ Hid (OwnB (w.heap.size + 1) wx g cap (l)) ∧ Hid (St w wx (-(A : Int)) (Q : Int)))
  case first =>
    go_wp2_with fail
    go_loopw [8, 9, 10, 11] (fun v8 v9 v10 v11 wr => ∃ (i R L g cap : Nat) (l : List UInt8), i ≤ k ∧ v8 = .int .i64 R ∧ v9 = .slice (some ⟨g, 0, none⟩) l.length cap ∧ v10 = .int .i64 L ∧ v11 = .int .i64 i ∧ R < Q ∧ L ≤ 2147483647 ∧ l.length = i ∧ Hid (R = fixR (A % Q) Q i) ∧ Hid (L % 2 = fixN A Q i % 2) ∧ Hid (l = pad i (fixN (A % Q) Q i)) ∧ Hid (OwnB (w.heap.size + 1) wr g cap (l)) ∧ Hid (St w wr (-(A : Int)) (Q : Int))) (fun _ _ _ vi _ => k - (intOf vi).toNat)
    case atStart =>
      refine ⟨0, A % Q, A / Q % 10, w1.heap.size, 0, [], by omega, by rw [HM1.out], rfl, by rw [HD1.out, HD2.out], rfl, (Nat.mod_lt _ hQ), by omega, rfl, Lib.hid (fixN_zero _ _ (Nat.mod_lt _ hQ)).2.symm, Lib.hid ?_, Lib.hid rfl, Lib.hid (own_empty w1 _ z1), Lib.hid (HS1.out.on ((RowKit.Below.refl _ _).alloc z1 _))⟩
      have : fixN A Q 0 = A / Q := by unfold fixN; simp
      rw [this]; omega
    case round =>
      obtain ⟨i, R, L, g, cap, l, hik, rfl, rfl, rfl, rfl, hR, hL, hll, HR, HL, HP, HO, HS⟩ := hrel
      rename World => W0
      have k0 := HS.out.c0
      have k1 := HS.out.c1
      have ksz := HS.out.size
      by_cases hlt : i < k
      · have hd10 : R * 10 / Q < 10 := by rw [Nat.div_lt_iff_lt_mul hQ]; omega
        have hdm : R * 10 % Q < Q := Nat.mod_lt _ hQ
        have HDQ : Hid ((R : Int) * 10 / (Q : Int) = ((R * 10 / Q : Nat) : Int)) := Lib.hid (by push_cast; rfl)
        have HMQ : Hid ((R : Int) * 10 % (Q : Int) = ((R * 10 % Q : Nat) : Int)) := Lib.hid (by push_cast; rfl)
        have d0 : 0 ≤ (R : Int) * 10 / (Q : Int) := by rw [HDQ.out]; exact Int.natCast_nonneg _
        have d1 : (R : Int) * 10 / (Q : Int) < 10 := by rw [HDQ.out]; omega
        have HDC : Hid (((dc (R * 10 / Q)).toNat : Int) = 48 + (R : Int) * 10 / (Q : Int)) := Lib.hid (by rw [HDQ.out]; exact dc_int hd10)
        have hsplit := fix_split A Q i hQ
        have hs1 := fixN_succ A Q i hQ
        have hs2 := fixN_succ (A % Q) Q i hQ
        have HN1 : Hid (R * 10 % Q = fixR (A % Q) Q (i + 1)) := Lib.hid (by rw [hs2.2, ← HR.out])
        have HN2 : Hid (R * 10 / Q % 2 = fixN A Q (i + 1) % 2) := Lib.hid (by rw [hs1.1, hsplit.2, ← HR.out]; omega)
        have HN3 : Hid (l ++ [dc (R * 10 / Q)] = pad (i + 1) (fixN (A % Q) Q (i + 1))) := Lib.hid (by rw [hs2.1, ← HR.out, pad_snoc _ _ _ hd10, ← HP.out])
        have hown := HO.out
        unfold OwnB at hown
        have HOW := Lib.hid hown
        have hl13 : l.length ≤ 13 := by omega
        have HLL := Lib.hid hll
        clear hown hsplit hs1 hs2 hll
        go_wp2_with (at_builtin; refine wpList_append_own _ rfl _ _ 59 rfl (w.heap.size + 1) 5 i0 (.int .u8 0) 1 1 Tryd.underlying59 hi hz0 hz1 hz2 rfl (by decide) _ _ _ rfl (HOW.out.alloc _) ⟨W0.heap.size, 0, none⟩ 1 1 [.int .u8 ((dc (R * 10 / Q)).toNat : Int)] rfl rfl (by intro j u' hj; match j, hj with | 0, hj => simp at hj; subst hj; simp [Addr.add]; (try rw [HDC.out])) (by intro u' hu'; simp at hu'; subst hu'; rfl) (by unfold maxLen; omega) (by omega) (by simp; omega) ?_)
        intro v1 W2 hown1 hgrow _
        obtain ⟨g1, cap1, hv1, hO1⟩ := own_shape hown1
        rw [hv1]
        have HS2 : Hid (St w W2 (-(A : Int)) (Q : Int)) := Lib.hid (HS.out.on (below_own ((RowKit.Below.refl _ _).alloc (by omega) _) hgrow (by simp; omega) (own_lt HO.out).1))
        have HO2 := Lib.hid hO1
        have hlen : l.length + 1 = (l ++ [dc (R * 10 / Q)]).length := by simp
        have hl1 : (l ++ [dc (R * 10 / Q)]).length = i + 1 := by simp [HLL.out]
        rw [hlen]
        clear hlen hown1 hgrow hO1 hv1 k0 k1
        have k0 := HS2.out.c0
        have k1 := HS2.out.c1
        go_wp2
        go_roundw
        case rel => exact ⟨i + 1, R * 10 % Q, R * 10 / Q, g1, cap1, l ++ [dc (R * 10 / Q)], by omega, by rw [HMQ.out], rfl, by rw [HDQ.out], by go_num, hdm, by omega, hl1, HN1, HN2, HN3, HO2, HS2⟩
        case measure => simp [intOf]; omega
      · obtain rfl : i = k := by omega
        go_wp2
        go_meet
        exact ⟨R, L, g, cap, l, rfl, rfl, rfl, rfl, hR, hL, hll, HR, HL, HP, HO, HS⟩
  case rest =>
    obtain ⟨R, L, g, cap, l, rfl, rfl, rfl, rfl, hR, hL, hll, HR, HL, HP, HO, HS⟩ := hcut
    rename World => W0
    have k0 := HS.out.c0
    have k1 := HS.out.c1
    have ksz := HS.out.size
    have hl12 : l.length ≤ 12 := by omega
    have HLL := Lib.hid hll
    clear hll
    go_upto_region 17 with fail
    go_cut [80] (fun v80 wx => v80 = .bool (decide (Q < 2 * R ∨ (2 * R = Q ∧ L % 2 = 1))) ∧ wx = W0)
    case first =>
      by_cases hgt : Q < 2 * R
      · have hgt' : (Q : Int) < (R : Int) * 2 := by omega
        have heq := hgt
        have hod := hgt
        have HX : Hid (decide (Q < 2 * R ∨ (2 * R = Q ∧ L % 2 = 1)) = true) := Lib.hid (by first | exact decide_eq_true (by omega) | exact decide_eq_false (by omega))
        clear hgt heq hod
        go_wp2
        go_meet
        exact ⟨congrArg Value.bool HX.out.symm, rfl⟩
      · have hgt' : ¬ (Q : Int) < (R : Int) * 2 := by omega
        by_cases heq : 2 * R = Q
        · have heq' : ((R : Int) * 2 == (Q : Int)) = true := by rw [beq_iff_eq]; omega
          by_cases hod : L % 2 = 1
          · have hod' : ((L : Int) % 2 == 1) = true := by rw [beq_iff_eq]; omega
            have HX : Hid (decide (Q < 2 * R ∨ (2 * R = Q ∧ L % 2 = 1)) = true) := Lib.hid (by first | exact decide_eq_true (by omega) | exact decide_eq_false (by omega))
            clear hgt heq hod
            go_wp2
            go_meet
            exact ⟨congrArg Value.bool HX.out.symm, rfl⟩
          · have hod' : ((L : Int) % 2 == 1) = false := by rw [beq_eq_false_iff_ne]; omega
            have HX : Hid (decide (Q < 2 * R ∨ (2 * R = Q ∧ L % 2 = 1)) = false) := Lib.hid (by first | exact decide_eq_true (by omega) | exact decide_eq_false (by omega))
            clear hgt heq hod
            go_wp2
            go_meet
            exact ⟨congrArg Value.bool HX.out.symm, rfl⟩
        · have heq' : ((R : Int) * 2 == (Q : Int)) = false := by rw [beq_eq_false_iff_ne]; omega
          have hod := heq
          have HX : Hid (decide (Q < 2 * R ∨ (2 * R = Q ∧ L % 2 = 1)) = false) := Lib.hid (by first | exact decide_eq_true (by omega) | exact decide_eq_false (by omega))
          clear hgt heq hod
          go_wp2
          go_meet
          exact ⟨congrArg Value.bool HX.out.symm, rfl⟩
    case rest =>
      obtain ⟨rfl, hwc⟩ := hcut
      subst hwc
      rename World => W0
      generalize hdd : decide (Q < 2 * R ∨ (2 * R = Q ∧ L % 2 = 1)) = dd at *
      have HDD := Lib.hid hdd
      clear hdd
      have q0 : 0 ≤ (A : Int) / (Q : Int) := by rw [HD1.out]; exact Int.natCast_nonneg _
      have q1 : (A : Int) / (Q : Int) ≤ 2147483647 := by have hdq : A / Q ≤ A := Nat.div_le_self _ _; rw [HD1.out]; omega
      go_upto_if 80 with fail
      go_cut [7, 9] (fun v7 v9 wx => ∃ (g cap : Nat), v7 = .int .i64 ((fixT A Q k / 10 ^ k : Nat) : Int) ∧ v9 = .slice (some ⟨g, 0, none⟩) (pad k (fixT A Q k % 10 ^ k)).length cap ∧ Hid (OwnB (w.heap.size + 1) wx g cap (pad k (fixT A Q k % 10 ^ k))) ∧ Hid (St w wx (-(A : Int)) (Q : Int)))
      case first =>
        by_cases hup : (Q < 2 * R ∨ (2 * R = Q ∧ L % 2 = 1))
        · obtain rfl : dd = true := by rw [← HDD.out]; exact decide_eq_true hup
          obtain ⟨hinc, hW⟩ := fix_up hQ HR.out HL.out hup
          generalize fixT A Q k % 10 ^ k = F at *
          generalize fixT A Q k / 10 ^ k = WN at *
          by_cases hc : (fixN (A % Q) Q k) + 1 = 10 ^ k
          · rw [if_pos hc] at hW
            rw [decide_eq_true hc] at hinc
            have J1 : Hid (Calls Tryd.prog 40 #[.slice (some ⟨g, 0, none⟩) l.length cap] W0 fun e w' => e = .returned (.tuple #[.slice (some ⟨g, 0, none⟩) l.length cap, .bool true]) ∧ OwnB (w.heap.size + 1) w' g cap (pad k F) ∧ RowKit.Below (w.heap.size + 1) W0 w') := Lib.hid (by
              have h := inc_any (w.heap.size + 1) g cap l W0 HO.out (by omega)
              rw [HP.out, hinc, ← HP.out] at h
              exact h)
            clear hinc hc hup
            go_wp2_with (go_at_call 40; (with_reducible refine (J1.out).mono ?_); rintro e w2 ⟨rfl, hO2, hB2⟩; have hx2 := hB2.size; have HO2 := Lib.hid hO2; have HS2 := Lib.hid (HS.out.on hB2); clear hO2 hB2; have k02 := HS2.out.c0; have k12 := HS2.out.c1)
            go_meet
            exact ⟨g, cap, by rw [hW, HD1.out]; push_cast; rfl, by rw [pad_len, HLL.out], HO2, HS2⟩
          · rw [if_neg hc] at hW
            rw [decide_eq_false hc] at hinc
            have J1 : Hid (Calls Tryd.prog 40 #[.slice (some ⟨g, 0, none⟩) l.length cap] W0 fun e w' => e = .returned (.tuple #[.slice (some ⟨g, 0, none⟩) l.length cap, .bool false]) ∧ OwnB (w.heap.size + 1) w' g cap (pad k F) ∧ RowKit.Below (w.heap.size + 1) W0 w') := Lib.hid (by
              have h := inc_any (w.heap.size + 1) g cap l W0 HO.out (by omega)
              rw [HP.out, hinc, ← HP.out] at h
              exact h)
            clear hinc hc hup
            go_wp2_with (go_at_call 40; (with_reducible refine (J1.out).mono ?_); rintro e w2 ⟨rfl, hO2, hB2⟩; have hx2 := hB2.size; have HO2 := Lib.hid hO2; have HS2 := Lib.hid (HS.out.on hB2); clear hO2 hB2; have k02 := HS2.out.c0; have k12 := HS2.out.c1)
            go_meet
            exact ⟨g, cap, by rw [hW, HD1.out]; rfl, by rw [pad_len, HLL.out], HO2, HS2⟩
        · obtain rfl : dd = false := by rw [← HDD.out]; exact decide_eq_false hup
          have hdn := hup
          obtain ⟨hW, hF⟩ := fix_dn hQ HR.out HL.out hdn
          clear hdn
          go_wp2
          go_meet
          exact ⟨g, cap, by rw [hW, HD1.out], by rw [pad_len, HLL.out], by rw [hF, ← HP.out]; exact HO, HS⟩
      case rest =>
        clear k0 k1 ksz HR HL HP HO HS HLL hl12 hR hL q0 q1 HDD
        obtain ⟨g, cap, rfl, rfl, HO, HS⟩ := hcut
        rename World => W5
        have hTz := fixT_zero A Q k
        have hfl : fixL (-(A : Int)) Q k = (if (-(A : Int)) < 0 ∧ fixT A Q k ≠ 0 then [45] else []) ++ (Lib.decDigits (fixT A Q k / 10 ^ k) ++ (if k = 0 then [] else 46 :: pad k (fixT A Q k % 10 ^ k))) := by
          unfold fixL; rw [show ((-(A : Int))).natAbs = A by omega]
        have hWl : fixT A Q k / 10 ^ k ≤ 2147483648 := by
          rw [(fixT_div A Q k hQ).1]
          have h2 := fixN_lt (A % Q) Q k (Nat.mod_lt _ hQ)
          have h1 := Nat.div_le_self A Q
          have h3 := up_01 (fixN A Q k) (fixR A Q k) Q
          have h4 : (fixN (A % Q) Q k + up (fixN A Q k) (fixR A Q k) Q) / 10 ^ k ≤ 1 := by
            have hpp := pow_pos10 k
            generalize up (fixN A Q k) (fixR A Q k) Q = u at h3 ⊢
            generalize fixN (A % Q) Q k = m at h2 ⊢
            have : (m + u) / 10 ^ k ≤ 10 ^ k / 10 ^ k := Nat.div_le_div_right (by omega)
            rw [Nat.div_self hpp] at this; exact this
          omega
        have hFl : fixT A Q k % 10 ^ k < 10 ^ k := Nat.mod_lt _ (pow_pos10 k)
        have hpz := pad_zero k (fixT A Q k % 10 ^ k) hFl
        generalize fixT A Q k / 10 ^ k = WN at *
        generalize fixT A Q k % 10 ^ k = F at *
        generalize fixT A Q k = T at *
        have hpl := pad_len k F
        generalize pad k F = l at *
        have hl12 : l.length ≤ 12 := by omega
        clear hpl
        have D1 : Hid (∀ w, Calls Tryd.prog 30 #[.int .i64 (WN : Int)] w fun e w' => e = .returned (.string (mkB (Lib.decDigits WN))) ∧ RowKit.Below w.heap.size w w') := Lib.hid fun w => by
          have := decimal_any (WN : Int) w (by omega) (by omega)
          rw [Lib.itoa_nonneg] at this; exact this
        have hsa : (mkB (Lib.decDigits WN)).size ≤ 30 := by
          rw [mkB_size]; have := Lib.itoa_length_le (WN : Int) (by omega) (by omega); rw [Lib.itoa_nonneg] at this; omega
        have HFL := Lib.hid hfl
        clear hfl hFl
        generalize hsaE : mkB (Lib.decDigits WN) = sa at *
        have HSA := Lib.hid hsaE
        clear hsaE
        have k0 := HS.out.c0
        have k1 := HS.out.c1
        have ksz := HS.out.size
        by_cases hk0 : k = 0
        · have hkp : ¬ 0 < (k : Int) := by omega
          have HK0 := Lib.hid hk0
          clear hk0
          by_cases hW0 : 0 < WN
          · have hsg : (-(A : Int)) < 0 ∧ T ≠ 0 := ⟨by omega, fun h => by have := (hTz.1 h).1; omega⟩
            have hW0' : 0 < (WN : Int) := by omega
            clear hTz hpz hW0
            have a4 : ∀ W, (Op.stringOp .add ⟨#[45]⟩ sa).run Tryd.prog W = .ok (.string (⟨#[45]⟩ ++ sa)) W := fun W => run_string_add_sum (w := W) _ _ (by show 1 + sa.size ≤ _; omega)
            have HR : Hid (Ending.returned (.tuple #[.string (⟨#[45]⟩ ++ sa), .int .i64 0]) = .returned (.tuple #[.string (mkB (fixL (-(A : Int)) Q k)), .int .i64 0])) := Lib.hid (by
              rw [HFL.out, if_pos hsg, if_pos HK0.out, ← HSA.out]
              show Ending.returned (.tuple #[.string (mkB [45] ++ mkB (Lib.decDigits WN)), .int .i64 0]) = _
              rw [mkB_app]; simp)
            clear hsg
            go_wp2_with (first | (go_at_call 30; (with_reducible refine (D1.out _).mono ?_); rintro e w6 ⟨rfl, hb6⟩; have HS6 := Lib.hid (HS.out.on (hb6.mono ksz)); have HO6 := Lib.hid (own_kept HO.out hb6); have k06 := HS6.out.c0; have k16 := HS6.out.c1; have ksz6 := HS6.out.size; have hcv6 := own_string HO6.out; clear hb6))
            go_ret2
            exact ⟨HR.out, HS6.out.fin⟩
          · have hW0' : ¬ 0 < (WN : Int) := by omega
            by_cases hF : F = 0
            · have hsg : ¬ ((-(A : Int)) < 0 ∧ T ≠ 0) := fun h => h.2 (hTz.2 ⟨by omega, hF⟩)
              have hzb : Hid (zb l = true) := Lib.hid (decide_eq_true (hpz.2 hF))
              clear hTz hpz hW0
              have HR : Hid (Ending.returned (.tuple #[.string sa, .int .i64 0]) = .returned (.tuple #[.string (mkB (fixL (-(A : Int)) Q k)), .int .i64 0])) := Lib.hid (by
                rw [HFL.out, if_neg hsg, if_pos HK0.out, ← HSA.out]
                show Ending.returned (.tuple #[.string (mkB (Lib.decDigits WN)), .int .i64 0]) = _
                simp)
              clear hsg
              go_wp2_with (first | (go_at_call 30; (with_reducible refine (D1.out _).mono ?_); rintro e w6 ⟨rfl, hb6⟩; have HS6 := Lib.hid (HS.out.on (hb6.mono ksz)); have HO6 := Lib.hid (own_kept HO.out hb6); have k06 := HS6.out.c0; have k16 := HS6.out.c1; have ksz6 := HS6.out.size; have hcv6 := own_string HO6.out; clear hb6) | (go_at_call 41; refine (zeros_any (w.heap.size + 1) g cap l _ HO6.out (by omega)).mono ?_; rintro e w7 ⟨hze, rfl⟩; rw [hzb.out] at hze; subst hze))
              go_ret2
              exact ⟨HR.out, HS6.out.fin⟩
            · have hsg : (-(A : Int)) < 0 ∧ T ≠ 0 := ⟨by omega, fun h => hF (hTz.1 h).2⟩
              have hzb : Hid (zb l = false) := Lib.hid (decide_eq_false fun h => hF (hpz.1 h))
              clear hTz hpz hW0
              have a4 : ∀ W, (Op.stringOp .add ⟨#[45]⟩ sa).run Tryd.prog W = .ok (.string (⟨#[45]⟩ ++ sa)) W := fun W => run_string_add_sum (w := W) _ _ (by show 1 + sa.size ≤ _; omega)
              have HR : Hid (Ending.returned (.tuple #[.string (⟨#[45]⟩ ++ sa), .int .i64 0]) = .returned (.tuple #[.string (mkB (fixL (-(A : Int)) Q k)), .int .i64 0])) := Lib.hid (by
                rw [HFL.out, if_pos hsg, if_pos HK0.out, ← HSA.out]
                show Ending.returned (.tuple #[.string (mkB [45] ++ mkB (Lib.decDigits WN)), .int .i64 0]) = _
                rw [mkB_app]; simp)
              clear hsg
              go_wp2_with (first | (go_at_call 30; (with_reducible refine (D1.out _).mono ?_); rintro e w6 ⟨rfl, hb6⟩; have HS6 := Lib.hid (HS.out.on (hb6.mono ksz)); have HO6 := Lib.hid (own_kept HO.out hb6); have k06 := HS6.out.c0; have k16 := HS6.out.c1; have ksz6 := HS6.out.size; have hcv6 := own_string HO6.out; clear hb6) | (go_at_call 41; refine (zeros_any (w.heap.size + 1) g cap l _ HO6.out (by omega)).mono ?_; rintro e w7 ⟨hze, rfl⟩; rw [hzb.out] at hze; subst hze))
              go_ret2
              exact ⟨HR.out, HS6.out.fin⟩
        · have hkp : 0 < (k : Int) := by omega
          have HK0 := Lib.hid hk0
          clear hk0
          by_cases hW0 : 0 < WN
          · have hsg : (-(A : Int)) < 0 ∧ T ≠ 0 := ⟨by omega, fun h => by have := (hTz.1 h).1; omega⟩
            have hW0' : 0 < (WN : Int) := by omega
            clear hTz hpz hW0
            have a2 : ∀ W, (Op.stringOp .add sa ⟨#[46]⟩).run Tryd.prog W = .ok (.string (sa ++ ⟨#[46]⟩)) W := fun W => run_string_add_sum (w := W) _ _ (by show sa.size + 1 ≤ _; omega)
            have a3 : ∀ W, (Op.stringOp .add (sa ++ ⟨#[46]⟩) (mkB l)).run Tryd.prog W = .ok (.string (sa ++ ⟨#[46]⟩ ++ mkB l)) W := fun W => run_string_add_sum (w := W) _ _ (by rw [mkB_size, ByteArray.size_append]; show sa.size + 1 + _ ≤ _; omega)
            have a4 : ∀ W, (Op.stringOp .add ⟨#[45]⟩ (sa ++ ⟨#[46]⟩ ++ mkB l)).run Tryd.prog W = .ok (.string (⟨#[45]⟩ ++ (sa ++ ⟨#[46]⟩ ++ mkB l))) W := fun W => run_string_add_sum (w := W) _ _ (by rw [ByteArray.size_append, ByteArray.size_append, mkB_size]; show 1 + (sa.size + 1 + _) ≤ _; omega)
            have HR : Hid (Ending.returned (.tuple #[.string (⟨#[45]⟩ ++ (sa ++ ⟨#[46]⟩ ++ mkB l)), .int .i64 0]) = .returned (.tuple #[.string (mkB (fixL (-(A : Int)) Q k)), .int .i64 0])) := Lib.hid (by
              rw [HFL.out, if_pos hsg, if_neg HK0.out, ← HSA.out]
              show Ending.returned (.tuple #[.string (mkB [45] ++ (mkB (Lib.decDigits WN) ++ mkB [46] ++ mkB l)), .int .i64 0]) = _
              rw [mkB_app, mkB_app, mkB_app]; simp)
            clear hsg
            go_wp2_with (first | (go_at_call 30; (with_reducible refine (D1.out _).mono ?_); rintro e w6 ⟨rfl, hb6⟩; have HS6 := Lib.hid (HS.out.on (hb6.mono ksz)); have HO6 := Lib.hid (own_kept HO.out hb6); have k06 := HS6.out.c0; have k16 := HS6.out.c1; have ksz6 := HS6.out.size; have hcv6 := own_string HO6.out; clear hb6))
            go_ret2
            exact ⟨HR.out, HS6.out.fin⟩
          · have hW0' : ¬ 0 < (WN : Int) := by omega
            by_cases hF : F = 0
            · have hsg : ¬ ((-(A : Int)) < 0 ∧ T ≠ 0) := fun h => h.2 (hTz.2 ⟨by omega, hF⟩)
              have hzb : Hid (zb l = true) := Lib.hid (decide_eq_true (hpz.2 hF))
              clear hTz hpz hW0
              have a2 : ∀ W, (Op.stringOp .add sa ⟨#[46]⟩).run Tryd.prog W = .ok (.string (sa ++ ⟨#[46]⟩)) W := fun W => run_string_add_sum (w := W) _ _ (by show sa.size + 1 ≤ _; omega)
              have a3 : ∀ W, (Op.stringOp .add (sa ++ ⟨#[46]⟩) (mkB l)).run Tryd.prog W = .ok (.string (sa ++ ⟨#[46]⟩ ++ mkB l)) W := fun W => run_string_add_sum (w := W) _ _ (by rw [mkB_size, ByteArray.size_append]; show sa.size + 1 + _ ≤ _; omega)
              have HR : Hid (Ending.returned (.tuple #[.string (sa ++ ⟨#[46]⟩ ++ mkB l), .int .i64 0]) = .returned (.tuple #[.string (mkB (fixL (-(A : Int)) Q k)), .int .i64 0])) := Lib.hid (by
                rw [HFL.out, if_neg hsg, if_neg HK0.out, ← HSA.out]
                show Ending.returned (.tuple #[.string ((mkB (Lib.decDigits WN) ++ mkB [46] ++ mkB l)), .int .i64 0]) = _
                rw [mkB_app, mkB_app]; simp)
              clear hsg
              go_wp2_with (first | (go_at_call 30; (with_reducible refine (D1.out _).mono ?_); rintro e w6 ⟨rfl, hb6⟩; have HS6 := Lib.hid (HS.out.on (hb6.mono ksz)); have HO6 := Lib.hid (own_kept HO.out hb6); have k06 := HS6.out.c0; have k16 := HS6.out.c1; have ksz6 := HS6.out.size; have hcv6 := own_string HO6.out; clear hb6) | (go_at_call 41; refine (zeros_any (w.heap.size + 1) g cap l _ HO6.out (by omega)).mono ?_; rintro e w7 ⟨hze, rfl⟩; rw [hzb.out] at hze; subst hze))
              go_ret2
              exact ⟨HR.out, HS6.out.fin⟩
            · have hsg : (-(A : Int)) < 0 ∧ T ≠ 0 := ⟨by omega, fun h => hF (hTz.1 h).2⟩
              have hzb : Hid (zb l = false) := Lib.hid (decide_eq_false fun h => hF (hpz.1 h))
              clear hTz hpz hW0
              have a2 : ∀ W, (Op.stringOp .add sa ⟨#[46]⟩).run Tryd.prog W = .ok (.string (sa ++ ⟨#[46]⟩)) W := fun W => run_string_add_sum (w := W) _ _ (by show sa.size + 1 ≤ _; omega)
              have a3 : ∀ W, (Op.stringOp .add (sa ++ ⟨#[46]⟩) (mkB l)).run Tryd.prog W = .ok (.string (sa ++ ⟨#[46]⟩ ++ mkB l)) W := fun W => run_string_add_sum (w := W) _ _ (by rw [mkB_size, ByteArray.size_append]; show sa.size + 1 + _ ≤ _; omega)
              have a4 : ∀ W, (Op.stringOp .add ⟨#[45]⟩ (sa ++ ⟨#[46]⟩ ++ mkB l)).run Tryd.prog W = .ok (.string (⟨#[45]⟩ ++ (sa ++ ⟨#[46]⟩ ++ mkB l))) W := fun W => run_string_add_sum (w := W) _ _ (by rw [ByteArray.size_append, ByteArray.size_append, mkB_size]; show 1 + (sa.size + 1 + _) ≤ _; omega)
              have HR : Hid (Ending.returned (.tuple #[.string (⟨#[45]⟩ ++ (sa ++ ⟨#[46]⟩ ++ mkB l)), .int .i64 0]) = .returned (.tuple #[.string (mkB (fixL (-(A : Int)) Q k)), .int .i64 0])) := Lib.hid (by
                rw [HFL.out, if_pos hsg, if_neg HK0.out, ← HSA.out]
                show Ending.returned (.tuple #[.string (mkB [45] ++ (mkB (Lib.decDigits WN) ++ mkB [46] ++ mkB l)), .int .i64 0]) = _
                rw [mkB_app, mkB_app, mkB_app]; simp)
              clear hsg
              go_wp2_with (first | (go_at_call 30; (with_reducible refine (D1.out _).mono ?_); rintro e w6 ⟨rfl, hb6⟩; have HS6 := Lib.hid (HS.out.on (hb6.mono ksz)); have HO6 := Lib.hid (own_kept HO.out hb6); have k06 := HS6.out.c0; have k16 := HS6.out.c1; have ksz6 := HS6.out.size; have hcv6 := own_string HO6.out; clear hb6) | (go_at_call 41; refine (zeros_any (w.heap.size + 1) g cap l _ HO6.out (by omega)).mono ?_; rintro e w7 ⟨hze, rfl⟩; rw [hzb.out] at hze; subst hze))
              go_ret2
              exact ⟨HR.out, HS6.out.fin⟩

theorem rfix_any (p q k : Int) (w : World) :
    Calls Tryd.prog 21 #[.agg #[.int .i64 p, .int .i64 q], .int .i64 k] w fun e w' => e = .returned (.tuple #[.string (mkB (fixS p q k)), .int .i64 (fixE p q k)]) ∧ RowKit.Below w.heap.size w w' := by
  cases hv : vld p q with
  | false => exact rfix_inv p q k w hv
  | true =>
    by_cases hk : 0 ≤ k ∧ k ≤ 12
    · rw [show fixS p q k = fixL p q.toNat k.toNat by unfold fixS; rw [if_pos ⟨hv, hk⟩], show fixE p q k = 0 by unfold fixE; rw [if_pos ⟨hv, hk⟩]]
      obtain ⟨n, rfl⟩ := Int.eq_ofNat_of_zero_le hk.1
      obtain ⟨g1, g2, g3, g4, _⟩ := vld_iff.1 hv
      obtain ⟨Q, rfl⟩ := Int.eq_ofNat_of_zero_le (show 0 ≤ q by omega)
      rw [Int.toNat_natCast, Int.toNat_natCast]
      by_cases hp : 0 ≤ p
      · obtain ⟨A, rfl⟩ := Int.eq_ofNat_of_zero_le hp
        exact rfix_pos A Q n w (by omega) (by omega) (by omega) hv (by omega)
      · obtain ⟨A, hA⟩ : ∃ A : Nat, p = -(A : Int) := ⟨p.natAbs, by omega⟩
        subst hA
        exact rfix_neg A Q n w (by omega) (by omega) (by omega) (by omega) hv (by omega)
    · exact rfix_out p q k w hv (by omega)
end Go.Proofs.YtplfdfpnplhonaaDoor
