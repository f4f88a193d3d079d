/- TableFills: the walk. -/
import Derived.Test.YtaaelhhiceildaaTbFw
import Derived.Deep.DeepCutAuto
import Derived.Deep.CutBlock
import Derived.BigQuiet
import Derived.RegionTactic
namespace Go.Proofs.Ytaaelhhiceildaa.tableFillsLaw
open Go.ChangeShapes Go.WideShapes Go.ChangeAt Go.RowKit Go.Joins Go.Deep M1
set_option linter.unusedVariables false
structure Fw (B t i g4 : Nat) (D : List Int) (va : Value) (b : Nat) (v m : Value) (s : TS) (wr : World) : Prop where
  tb : Tb B t va b v m s wr
  fi : Fi s D i
  mi : Mi g4 D wr
  nn : g4 ∉ tbS t va b v m
  nb : B ≤ g4
theorem Fw.ch0 {B t i g4 : Nat} {D : List Int} {va : Value} {b : Nat} {v m : Value} {s : TS} {w w' : World} (h : Fw B t i g4 D va b v m s w) (hc : Ch [] w w') : Fw B t i g4 D va b v m s w' :=
  ⟨h.tb.ch0 hc, h.fi, h.mi.ch hc (not_nil _), h.nn, h.nb⟩
theorem Fw.said {B t i g4 : Nat} {D : List Int} {va : Value} {b : Nat} {v m : Value} {s : TS} {w w' : World} (h : Fw B t i g4 D va b v m s w) (hs : TbSaid B t va b v m s w w') : ∃ va' b' v' m', Fw B t i g4 D va' b' v' m' s w' := by
  obtain ⟨⟨va', b', v', m', h1, h2⟩, hc⟩ := hs
  refine ⟨va', b', v', m', h1, h.fi, h.mi.ch hc h.nn, fun hq => ?_, h.nb⟩
  rcases h2 _ hq with q | q
  · exact h.nn q
  · have := h.mi.lt; omega
theorem Fw.step {B t i g4 : Nat} {D : List Int} {va : Value} {b : Nat} {v m : Value} {s : TS} {w w2 w' : World} {d : Int} (h : Fw B t i g4 D va b v m s w) (hm : Mi g4 (addI D d) w2) (hc2 : Ch [g4] w w2) (h1 : 1 ≤ d) (h2 : d ≤ 256) (hi : i ≤ 200) (hs : TbSaid B t va b v m (setT s (keyV d) (keyV d)) w2 w') : ∃ va' b' v' m', Fw B t (i + 1) g4 (addI D d) va' b' v' m' (setT s (keyV d) (keyV d)) w' := by
  obtain ⟨⟨va', b', v', m', k1, k2⟩, hc⟩ := hs
  refine ⟨va', b', v', m', k1, h.fi.set d h1 h2 hi, hm.ch hc h.nn, fun hq => ?_, h.nb⟩
  rcases k2 _ hq with q | q
  · exact h.nn q
  · have := h.mi.lt; have := hc2.size; omega
set_option maxHeartbeats 16000000 in
set_option maxRecDepth 100000 in
theorem walk (p : Option Addr) (cap : Nat) (l : List Int) (w : World) (hlm : l.length ≤ maxLen) (hu : ∀ y ∈ l, 0 ≤ y ∧ y < 256) (hp : 0 < l.length → ∃ g o, p = some ⟨g, o, none⟩ ∧ g < w.heap.size ∧ ∀ (j m : Nat) (hj : j < l.length), m < 1 → w.cell? ⟨g, o + j * 1 + m, none⟩ = (u8C l[j])[m]?) :
    Calls Try.prog 8 #[.slice p l.length cap] w fun e w' => e = .returned (.bool true) ∧ Below w.heap.size w w' := by
  have HP := Lib.hid hp
  have HU := Lib.hid hu
  have HAW := Lib.hid awake_any
  have hmm := @run_makeMap Try.prog
  clear hp hu
  go_enter Try.func8, Try.ntmps8
  by_cases hl : l.length ≤ 200
  · have hl2 : ¬ ((200 : Int) < (l.length : Int)) := by omega
    have QN := Lib.hid (tnew_any w.heap.size w (Nat.le_refl _))
    have HL := Lib.hid hl
    clear hl
    go_upto_region 6 with (go_at_call 11; (with_reducible refine (QN.out).mono ?_); rintro e w2 ⟨t, b0, rfl, ht, _, hb⟩; have HT2 := Lib.hid ht; have HB2 := Lib.hid hb; clear ht hb)
    rename World => w2
    go_upto_region 7 with fail
    have HX3 : Hid (Fw w.heap.size t 0 w2.heap.size [] _ b0 _ _ ⟨[], 0, [], false⟩ (w2.alloc (.map #[] 0))) := Lib.hid ⟨HT2.out.ch0 ((Ch.refl [] _).alloc _), Fi.nil, Mi.new w2 _ rfl, fun hq => absurd (HT2.out.lt _ hq).2 (Nat.lt_irrefl _), HB2.out.size⟩
    have HB3 : Hid (Below w.heap.size w (w2.alloc (.map #[] 0))) := Lib.hid (HB2.out.alloc HB2.out.size _)
    generalize (w2.alloc (.map #[] 0)) = w3 at *
    generalize w2.heap.size = g4 at *
    clear HT2 HB2 QN hmm
    go_wp2
    go_loopw [5] (fun v5 wr => ∃ (i : Nat) (D : List Int) (va : Value) (b : Nat) (v m : Value) (s : TS), v5 = .int .i64 (i : Int) ∧ Hid (i ≤ l.length) ∧ Hid (Fw w.heap.size t i g4 D va b v m s wr) ∧ Hid (Below w.heap.size w wr)) (fun v5 _ => l.length - (intOf v5).toNat)
    case atStart => exact ⟨0, [], _, b0, _, _, _, rfl, Lib.hid (Nat.zero_le _), HX3, HB3⟩
    case round =>
      clear HX3 HB3
      obtain ⟨i, D, va, b, v, m, s, rfl, HI, HX, HB⟩ := hrel
      rename World => wr
      by_cases hlt : i < l.length
      · have hlt2 : (i : Int) < (l.length : Int) := by omega
        have hi0 : (0 : Int) ≤ (i : Int) := by omega
        have di : IntKind.i64.wrap ((i : Int) + 1) = (i : Int) + 1 := IntWalk.i64_in _ (by have := HL.out; omega)
        obtain ⟨g, o, rfl, hgl, key⟩ := HP.out (by omega)
        obtain ⟨n, hn⟩ : ∃ n : Int, l[i] = n := ⟨_, rfl⟩
        have HNR : Hid (0 ≤ n ∧ n < 256) := Lib.hid (by rw [← hn]; exact HU.out _ (List.getElem_mem _))
        have d0 : wr.cell? ⟨g, o + i, none⟩ = some (.int .u8 n) := by
          have h3 := (HB.out.cell (p := ⟨g, o + i * 1 + 0, none⟩) hgl).trans (key i 0 hlt (by omega))
          rw [hn, Nat.mul_one, Nat.add_zero] at h3
          exact h3
        have hgr : g < wr.heap.size := Nat.lt_of_lt_of_le hgl HB.out.size
        have dw : IntKind.i64.wrap n = n := IntWalk.i64_in _ (by have := HNR.out; omega)
        have dk : IntKind.i64.wrap (1 + n) = 1 + n := IntWalk.i64_in _ (by have := HNR.out; omega)
        have HLT := Lib.hid hlt
        clear key hgl hlt hn
        go_upto_region 11 with fail
        obtain ⟨w2, hr2, hm2, hc2⟩ := putI HX.out.mi (1 + n)
        go_upto_region 12 with fail
        have HM2 := Lib.hid hm2
        have HC2 := Lib.hid hc2
        have HT2 : Hid (Tb w.heap.size t va b v m s w2) := Lib.hid (HX.out.tb.ch hc2 (fun g hg q => by rw [List.mem_singleton] at q; rw [q] at hg; exact HX.out.nn hg))
        clear d0 hgr dw dk hr2 hm2 hc2
        have HKE : Hid ((⟨2, 1 + n, 1, ⟨#[]⟩, 0⟩ : V5) = keyV (1 + n)) := Lib.hid (by have h3 := keyS (i := (1 + n).toNat) (by have := HNR.out; omega); rw [show (((1 + n).toNat : Nat) : Int) = 1 + n by have := HNR.out; omega] at h3; exact h3.symm)
        have HS1 : Hid (w2.heap.size = w2.heap.size ∧ w.heap.size ≤ w2.heap.size) := Lib.hid ⟨rfl, Nat.le_trans HB.out.size HC2.out.size⟩
        have QS : Hid (∀ W, Ch [] w2 W → Calls Try.prog 12 #[.pointer (some ⟨t, 0, none⟩), .agg #[.int .i64 2, .int .i64 (1 + n), .int .i64 1, .string ⟨#[]⟩, .int .i64 0], .agg #[.int .i64 2, .int .i64 (1 + n), .int .i64 1, .string ⟨#[]⟩, .int .i64 0]] W fun e w' => e = .returned (.int .i64 0) ∧ TbSaid w.heap.size t va b v m (setT s (keyV (1 + n)) (keyV (1 + n))) w2 w') := Lib.hid fun W hc => by
          have h1 := HNR.out
          obtain ⟨k1, k2⟩ := keyI_ok (a := 1 + n) (by omega) (by omega)
          have he : errR (keyV (1 + n)) (keyV (1 + n)) = 0 := errR_ok (by rw [k1]; decide) k2 k2
          have htt := HX.out.fi.tot
          unfold totT at htt
          have h3 := (tset_any w.heap.size t va b v m s W (HT2.out.ch0 hc) (⟨2, 1 + n, 1, ⟨#[]⟩, 0⟩ : V5) (⟨2, 1 + n, 1, ⟨#[]⟩, 0⟩ : V5) (by have := HX.out.fi.rl; have := HX.out.fi.dl; have := HI.out; have := HL.out; omega) (Nat.le_trans HS1.out.2 hc.size) HX.out.fi.ti.ok.1)
          refine h3.mono fun e w' hh => ⟨?_, ?_⟩
          · rw [← he, ← HKE.out]; exact hh.1
          · rw [← HKE.out]; exact tb_chain (fun g hg => .inl hg) (hc.mono (fun g hg => absurd hg (not_nil g))) hh.2
        have HC : Hid (Ch [] w2 w2) := Lib.hid (Ch.refl _ _)
        go_upto_region 9 with (first | (go_at_call 20; (with_reducible refine (num13 _ _).mono ?_); rintro e w9 ⟨rfl, hb1⟩; have hc9 := HC.out.trans (Ch.of_below hb1); clear HC hb1; have HC := Lib.hid hc9; clear hc9) | (go_at_call 12; (with_reducible refine (QS.out _ HC.out).mono ?_); rintro e w7 ⟨rfl, hs7⟩; have HS7 := Lib.hid hs7; clear hs7))
        obtain ⟨va7, b7, q7, m7, hX7⟩ := Fw.step HX.out HM2.out HC2.out (by have := HNR.out; omega) (by have := HNR.out; omega) (by have := HI.out; have := HL.out; have := HLT.out; omega) HS7.out
        have HX7 := Lib.hid hX7
        have HB7 : Hid (Below w.heap.size w w7) := Lib.hid ((HB.out.trans ((HC2.out.belowB (fun g hg => by rw [List.mem_singleton] at hg; rw [hg]; exact HX.out.nb) HB.out.size))).trans (HS7.out.2.belowB (fun g hg => (HX.out.tb.lt g hg).1) HS1.out.2))
        clear hX7
        go_wp2
        go_roundw
        (case rel => exact ⟨i + 1, addI D (1 + n), va7, b7, q7, m7, _, by go_num, Lib.hid (by have := HLT.out; omega), HX7, HB7⟩)
        (case measure => have := HLT.out; simp [intOf]; omega)
      · have hlt2 : ¬ (i : Int) < (l.length : Int) := by omega
        have HI2 : Hid (i ≤ 200) := Lib.hid (by have := HI.out; have := HL.out; omega)
        clear hlt
        obtain ⟨N, hN⟩ : ∃ N, s.arr.length = N := ⟨_, rfl⟩
        have HN := Lib.hid hN
        have HNS : Hid (N ≤ 200) := Lib.hid (by have h3 := HX.out.fi.tot; unfold totT at h3; have := HX.out.fi.dl; have := HI2.out; omega)
        clear hN
        have LK : ∀ d : Int, (Instr.lookup 52 (.map (some g4)) (.int .i64 d) false).run Try.prog wr = .ok (.bool (decide (d ∈ D))) wr := fun d => lookI HX.out.mi d
        have HBR := HB
        have HXR := HX
        go_upto_region 14 with fail
        go_wp2
        go_loopw [7] (fun v7 wx => ∃ j : Nat, v7 = .int .i64 (j : Int) ∧ Hid (j ≤ N) ∧ Hid (wr = wx)) (fun v7 _ => N - (intOf v7).toNat)
        case atStart => exact ⟨0, rfl, Lib.hid (Nat.zero_le _), Lib.hid rfl⟩
        case round =>
          obtain ⟨j, rfl, HJ, HW⟩ := hrel
          rename World => wx
          obtain rfl : wr = wx := HW.out
          clear HW
          have dj : IntKind.i64.wrap ((j : Int) + 1) = (j : Int) + 1 := IntWalk.i64_in _ (by have := HJ.out; have := HNS.out; omega)
          have HM := Lib.hid (HX.out.fi.mem HI2.out j (by rw [HN.out]; exact HJ.out)).1
          by_cases hj : j < N
          · have hd : decide ((j : Int) + 1 ∈ D) = true := decide_eq_true (HM.out.2 (by rw [HN.out]; exact hj))
            have hL := LK ((j : Int) + 1)
            rw [hd] at hL
            have HJN := Lib.hid hj
            clear hd hj LK
            go_wp2_with fail
            go_roundw
            (case rel => exact ⟨j + 1, by go_num, Lib.hid (by have := HJN.out; omega), by first | exact Lib.hid rfl | exact Lib.hid trivial⟩)
            (case measure => have := HJN.out; simp [intOf]; omega)
          · obtain rfl : j = N := by have := HJ.out; omega
            have hd : decide ((j : Int) + 1 ∈ D) = false := decide_eq_false (fun q => hj (by have h3 := HM.out.1 q; rw [HN.out] at h3; exact h3))
            have hL := LK ((j : Int) + 1)
            rw [hd] at hL
            clear hd hj LK HM HJ
            rename Nat => N
            have QAr : Hid (∀ W, Fw w.heap.size t i g4 D va b v m s W → Calls Try.prog 17 #[.pointer (some ⟨t, 0, none⟩)] W fun e w' => e = .returned (.int .i64 (N : Int)) ∧ W = w') := Lib.hid fun W hW => by rw [← HN.out]; exact tarr_any _ t va b v m s W hW.tb
            have QLn : Hid (∀ W, Fw w.heap.size t i g4 D va b v m s W → Calls Try.prog 19 #[.pointer (some ⟨t, 0, none⟩)] W fun e w' => e = .returned (.int .i64 (N : Int)) ∧ W = w') := Lib.hid fun W hW => by rw [← HN.out]; exact tlen_any _ t va b v m s W hW.tb
            have QCt : Hid (∀ W, Fw w.heap.size t i g4 D va b v m s W → Calls Try.prog 16 #[.pointer (some ⟨t, 0, none⟩)] W fun e w' => e = .returned (.int .i64 (D.length : Int)) ∧ Below W.heap.size W w') := Lib.hid fun W hW => by
              have h3 := tcount_any _ t va b v m s W hW.tb (by have := HN.out; have := HNS.out; have := hW.fi.rl; have := HI2.out; omega)
              rw [hW.fi.count] at h3
              exact h3
            go_upto_region 17 with fail
            go_cut [79] from 14 to 79 (fun v79 wx => v79 = .bool false ∧ Hid (Fw w.heap.size t i g4 D va b v m s wx) ∧ Hid (Below w.heap.size w wx))
            case first =>
              by_cases hnd : N = D.length
              · have QSz : Hid (∀ W, Fw w.heap.size t i g4 D va b v m s W → Calls Try.prog 21 #[.pointer (some ⟨t, 0, none⟩)] W fun e w' => e = .returned (.int .i64 (4 + 2 * (N : Int))) ∧ W = w') := Lib.hid fun W hW => by
                  have h3 := tsize_any _ t va b v m s W hW.tb (by have := HN.out; have := HNS.out; have := hW.fi.rl; have := HI2.out; omega)
                  have h4 := hW.fi.size (by rw [HN.out]; exact hnd)
                  rw [HN.out] at h4
                  rw [h4] at h3
                  have h5 : ((4 + 2 * N : Nat) : Int) = 4 + 2 * (N : Int) := by omega
                  rw [h5] at h3
                  exact h3
                have e17 : ((N : Int) == (D.length : Int)) = true := beq_iff_eq.2 (by omega)
                have d2 : IntKind.i64.wrap (2 * (N : Int)) = 2 * (N : Int) := IntWalk.i64_in _ (by have := HNS.out; omega)
                have d4 : IntKind.i64.wrap (4 + 2 * (N : Int)) = 4 + 2 * (N : Int) := IntWalk.i64_in _ (by have := HNS.out; omega)
                clear hnd hL
                have hlen := lenI HX.out.mi
                go_wp2_with (first | (go_at_call 17; (with_reducible refine (QAr.out _ HX.out).mono ?_); rintro e w9 ⟨rfl, rfl⟩) | (go_at_call 19; (with_reducible refine (QLn.out _ HX.out).mono ?_); rintro e w9 ⟨rfl, rfl⟩) | (go_at_call 16; (with_reducible refine (QCt.out _ HX.out).mono ?_); rintro e w9 ⟨rfl, hb1⟩; clear hlen; have hb2 := HB.out.trans (hb1.mono HB.out.size); have hx2 := HX.out.ch0 (Ch.of_below hb1); clear HB HX hb1; have HB := Lib.hid hb2; have HX := Lib.hid hx2; have hlen := lenI HX.out.mi; clear hb2 hx2) | (go_at_call 21; (with_reducible refine (QSz.out _ HX.out).mono ?_); rintro e w9 ⟨rfl, rfl⟩))
                go_meet
                exact ⟨rfl, HX, HB⟩
              · have e17 : ((N : Int) == (D.length : Int)) = false := beq_eq_false_iff_ne.2 (by omega)
                clear hnd hL
                have hlen := lenI HX.out.mi
                go_wp2_with (first | (go_at_call 17; (with_reducible refine (QAr.out _ HX.out).mono ?_); rintro e w9 ⟨rfl, rfl⟩) | (go_at_call 19; (with_reducible refine (QLn.out _ HX.out).mono ?_); rintro e w9 ⟨rfl, rfl⟩) | (go_at_call 16; (with_reducible refine (QCt.out _ HX.out).mono ?_); rintro e w9 ⟨rfl, hb1⟩; clear hlen; have hb2 := HB.out.trans (hb1.mono HB.out.size); have hx2 := HX.out.ch0 (Ch.of_below hb1); clear HB HX hb1; have HB := Lib.hid hb2; have HX := Lib.hid hx2; have hlen := lenI HX.out.mi; clear hb2 hx2))
                go_meet
                exact ⟨rfl, HX, HB⟩
            obtain ⟨rfl, HX2, HB2⟩ := hcut
            rename World => w5
            clear hL HXR HBR
            try clear HX HB
            have HX6 : Hid (Fw w.heap.size t i g4 D va b v m s (w5.alloc (.cells #[.int .i64 0, .int .i64 0, .int .i64 0, .string ⟨#[]⟩, .int .i64 0] 26))) := Lib.hid (HX2.out.ch0 ((Ch.refl [] w5).alloc _))
            have HB6 : Hid (Below w.heap.size w (w5.alloc (.cells #[.int .i64 0, .int .i64 0, .int .i64 0, .string ⟨#[]⟩, .int .i64 0] 26))) := Lib.hid (HB2.out.alloc HB2.out.size _)
            have K6 : Hid (Blk 26 w5.heap.size #[.int .i64 0, .int .i64 0, .int .i64 0, .string ⟨#[]⟩, .int .i64 0] (w5.alloc (.cells #[.int .i64 0, .int .i64 0, .int .i64 0, .string ⟨#[]⟩, .int .i64 0] 26))) := Lib.hid (Blk.new w5 _ _ _ rfl)
            have HG48 : Hid (¬ g4 = w5.heap.size) := Lib.hid (by have := HX2.out.mi.lt; omega)
            have HN8 : Hid (w5.heap.size ∉ tbS t va b v m ∧ w.heap.size ≤ w5.heap.size) := Lib.hid ⟨fun hq => absurd (HX2.out.tb.lt _ hq).2 (Nat.lt_irrefl _), HB2.out.size⟩
            clear HX2 HB2
            go_upto_region 20 with fail
            generalize (w5.alloc (.cells #[.int .i64 0, .int .i64 0, .int .i64 0, .string ⟨#[]⟩, .int .i64 0] 26)) = w6 at *
            generalize w5.heap.size = n8 at *
            go_wp2
            go_loopw [9] (fun v9 wr => ∃ (j : Nat) (va : Value) (b : Nat) (v m : Value) (k5 : V5), v9 = .int .i64 ((j : Int) + 1) ∧ Hid (j ≤ N) ∧ Hid (k5 = if j = 0 then v5z else keyV (j : Int)) ∧ Hid (Fw w.heap.size t i g4 D va b v m s wr) ∧ Hid (Blk 26 n8 #[.int .i64 k5.k, .int .i64 k5.p, .int .i64 k5.q, .string k5.s, .int .i64 k5.r] wr) ∧ Hid (n8 ∉ tbS t va b v m ∧ w.heap.size ≤ n8) ∧ Hid (Below w.heap.size w wr)) (fun v9 _ => N + 1 - (intOf v9).toNat)
            case atStart => exact ⟨0, va, b, v, m, v5z, rfl, Lib.hid (Nat.zero_le _), Lib.hid rfl, HX6, K6, HN8, HB6⟩
            case round =>
              clear HX6 K6 HN8 HB6
              obtain ⟨j, va, b, v, m, k5, rfl, HJ, HK5, HX, K, HN8, HB⟩ := hrel
              rename World => wr
              have dj : IntKind.i64.wrap (((j : Int) + 1) + 1) = ((j : Int) + 1) + 1 := IntWalk.i64_in _ (by have := HJ.out; have := HNS.out; omega)
              by_cases hj : j < N
              · have hj2 : ((j : Int) + 1) ≤ (N : Int) := by omega
                have HJN := Lib.hid hj
                have HKE : Hid (keyV ((j : Int) + 1) = (⟨2, ((j : Int) + 1), 1, ⟨#[]⟩, 0⟩ : V5)) := Lib.hid (by have h3 := keyS (i := j + 1) (by have := HNS.out; omega); rw [show (((j + 1 : Nat)) : Int) = ((j : Int) + 1) by omega] at h3; exact h3)
                have hnx := HX.out.fi.next HI2.out j (by rw [HN.out]; exact hj)
                rw [← HK5.out, HKE.out] at hnx
                have QX : Hid (Calls Try.prog 18 #[.pointer (some ⟨t, 0, none⟩), .agg #[.int .i64 k5.k, .int .i64 k5.p, .int .i64 k5.q, .string k5.s, .int .i64 k5.r]] wr fun e w' => e = .returned (.tuple #[.agg #[.int .i64 2, .int .i64 ((j : Int) + 1), .int .i64 1, .string ⟨#[]⟩, .int .i64 0], .agg #[.int .i64 2, .int .i64 ((j : Int) + 1), .int .i64 1, .string ⟨#[]⟩, .int .i64 0], .bool true, .int .i64 0]) ∧ TbSaid w.heap.size t va b v m s wr w') := Lib.hid (by
                  have h3 := tnx_any w.heap.size t va b v m s wr HX.out.tb k5 (by have h4 := HX.out.fi.tot; unfold totT at h4; have := HX.out.fi.rl; have := HX.out.fi.dl; have := HI2.out; omega)
                  rw [hnx.1, hnx.2] at h3
                  exact h3)
                clear hnx hj
                have z0 : wr.cell? ⟨n8, 0, none⟩ = some (.int .i64 k5.k) := K.out.cell 0
                have z1 : wr.cell? ⟨n8, 1, none⟩ = some (.int .i64 k5.p) := K.out.cell 1
                have z2 : wr.cell? ⟨n8, 2, none⟩ = some (.int .i64 k5.q) := K.out.cell 2
                have z3 : wr.cell? ⟨n8, 3, none⟩ = some (.string k5.s) := K.out.cell 3
                have z4 : wr.cell? ⟨n8, 4, none⟩ = some (.int .i64 k5.r) := K.out.cell 4
                have zl := K.out.lt
                go_upto_region 24 with (go_at_call 18; (with_reducible refine (QX.out).mono ?_); rintro e w7 ⟨rfl, hs7⟩)
                obtain ⟨⟨va7, b7, q7, m7, k1, k2⟩, hc7⟩ := hs7
                have hml := HX.out.mi.lt
                have HX7 : Hid (Fw w.heap.size t i g4 D va7 b7 q7 m7 s w7) := Lib.hid ⟨k1, HX.out.fi, HX.out.mi.ch hc7 HX.out.nn, fun hq => by
                  rcases k2 _ hq with q | q
                  · exact HX.out.nn q
                  · omega, HX.out.nb⟩
                have HN7 : Hid (n8 ∉ tbS t va7 b7 q7 m7 ∧ w.heap.size ≤ n8) := Lib.hid ⟨fun hq => by
                  have hl8 := K.out.lt
                  rcases k2 _ hq with q | q
                  · exact HN8.out.1 q
                  · omega, HN8.out.2⟩
                have K7 : Hid (Blk 26 n8 #[.int .i64 k5.k, .int .i64 k5.p, .int .i64 k5.q, .string k5.s, .int .i64 k5.r] w7) := Lib.hid (K.out.ch hc7 HN8.out.1)
                have HB7 : Hid (Below w.heap.size w w7) := Lib.hid (HB.out.trans (hc7.belowB (fun g hg => (HX.out.tb.lt g hg).1) HB.out.size))
                have HD8 : Hid (Ch [] w7 ((w7.alloc (.cells #[.int .i64 2, .int .i64 ((j : Int) + 1), .int .i64 1, .string ⟨#[]⟩, .int .i64 0] 26)).alloc (.cells #[.int .i64 2, .int .i64 ((j : Int) + 1), .int .i64 1, .string ⟨#[]⟩, .int .i64 0] 26))) := Lib.hid (((Ch.refl [] w7).alloc _).alloc _)
                have KX8 : Hid (Blk 26 w7.heap.size #[.int .i64 2, .int .i64 ((j : Int) + 1), .int .i64 1, .string ⟨#[]⟩, .int .i64 0] ((w7.alloc (.cells #[.int .i64 2, .int .i64 ((j : Int) + 1), .int .i64 1, .string ⟨#[]⟩, .int .i64 0] 26)).alloc (.cells #[.int .i64 2, .int .i64 ((j : Int) + 1), .int .i64 1, .string ⟨#[]⟩, .int .i64 0] 26))) := Lib.hid ((Blk.new w7 26 _ _ rfl).ch ((Ch.refl [] _).alloc _) (not_nil _))
                have KY8 : Hid (Blk 26 (w7.heap.size + 1) #[.int .i64 2, .int .i64 ((j : Int) + 1), .int .i64 1, .string ⟨#[]⟩, .int .i64 0] ((w7.alloc (.cells #[.int .i64 2, .int .i64 ((j : Int) + 1), .int .i64 1, .string ⟨#[]⟩, .int .i64 0] 26)).alloc (.cells #[.int .i64 2, .int .i64 ((j : Int) + 1), .int .i64 1, .string ⟨#[]⟩, .int .i64 0] 26))) := Lib.hid (Blk.new _ 26 _ _ (by simp))
                have HN87 : Hid (n8 < w7.heap.size) := Lib.hid K7.out.lt
                clear z0 z1 z2 z3 z4 zl k1 k2 hc7 hml QX HX K HN8 HB
                generalize ((w7.alloc (.cells #[.int .i64 2, .int .i64 ((j : Int) + 1), .int .i64 1, .string ⟨#[]⟩, .int .i64 0] 26)).alloc (.cells #[.int .i64 2, .int .i64 ((j : Int) + 1), .int .i64 1, .string ⟨#[]⟩, .int .i64 0] 26)) = w8 at *
                generalize w7.heap.size = n10 at *
                have HX8 := Lib.hid (HX7.out.ch0 HD8.out)
                have K8 := Lib.hid (K7.out.ch HD8.out (not_nil _))
                have HB8 : Hid (Below w.heap.size w w8) := Lib.hid (HB7.out.trans (HD8.out.below.mono HB7.out.size))
                clear HX7 K7 HB7 HD8
                have x0 : w8.cell? ⟨n10, 0, none⟩ = some (.int .i64 2) := KX8.out.cell 0
                have x1 : w8.cell? ⟨n10, 1, none⟩ = some (.int .i64 ((j : Int) + 1)) := KX8.out.cell 1
                have x2 : w8.cell? ⟨n10, 2, none⟩ = some (.int .i64 1) := KX8.out.cell 2
                have x3 : w8.cell? ⟨n10, 3, none⟩ = some (.string ⟨#[]⟩) := KX8.out.cell 3
                have x4 : w8.cell? ⟨n10, 4, none⟩ = some (.int .i64 0) := KX8.out.cell 4
                have xl := KX8.out.lt
                have y0 : w8.cell? ⟨(n10 + 1), 0, none⟩ = some (.int .i64 2) := KY8.out.cell 0
                have y1 : w8.cell? ⟨(n10 + 1), 1, none⟩ = some (.int .i64 ((j : Int) + 1)) := KY8.out.cell 1
                have y2 : w8.cell? ⟨(n10 + 1), 2, none⟩ = some (.int .i64 1) := KY8.out.cell 2
                have y3 : w8.cell? ⟨(n10 + 1), 3, none⟩ = some (.string ⟨#[]⟩) := KY8.out.cell 3
                have y4 : w8.cell? ⟨(n10 + 1), 4, none⟩ = some (.int .i64 0) := KY8.out.cell 4
                have yl := KY8.out.lt
                have EQ : ∀ W, (binOp .neq 26 (.agg #[.int .i64 2, .int .i64 ((j : Int) + 1), .int .i64 1, .string ⟨#[]⟩, .int .i64 0]) (.agg #[.int .i64 2, .int .i64 ((j : Int) + 1), .int .i64 1, .string ⟨#[]⟩, .int .i64 0])).run Try.prog W = .ok (.bool false) W := fun W => neq_v5 (⟨2, ((j : Int) + 1), 1, ⟨#[]⟩, 0⟩ : V5) W
                have hW := Below.refl w8.heap.size w8
                have hcc : ∀ c o, c < w8.heap.size → w8.drew.cell? ⟨c, o, none⟩ = w8.cell? ⟨c, o, none⟩ := fun _ _ _ => rfl
                go_region_held3 (fun w' => (∀ c o, c < w8.heap.size → w'.cell? ⟨c, o, none⟩ = w8.cell? ⟨c, o, none⟩) ∧ Below w8.heap.size w8 w') (first | assumption | exact ⟨hcc, hW.drew⟩ | exact keepB (by assumption) hb1) (first | (go_at_call 20; (with_reducible refine (num13 _ _).mono ?_); rintro e w9 ⟨rfl, hb1⟩))
                all_goals (
                  have hS := ‹_ ∧ Below _ _ _›
                  rename World => w9
                  have HC9 : Hid (Ch [] w8 w9) := Lib.hid (Ch.of_below hS.2)
                  have HX9 := Lib.hid (HX8.out.ch0 HC9.out)
                  have K9 := Lib.hid (K8.out.ch HC9.out (not_nil _))
                  have KX9 := Lib.hid (KX8.out.ch HC9.out (not_nil _))
                  have HB9 : Hid (Below w.heap.size w w9) := Lib.hid (HB8.out.trans (HC9.out.below.mono HB8.out.size))
                  clear hS hW hcc EQ x0 x1 x2 x3 x4 xl y0 y1 y2 y3 y4 yl HX8 K8 KX8 KY8 HB8 HC9
                  have x0 : w9.cell? ⟨n10, 0, none⟩ = some (.int .i64 2) := KX9.out.cell 0
                  have x1 : w9.cell? ⟨n10, 1, none⟩ = some (.int .i64 ((j : Int) + 1)) := KX9.out.cell 1
                  have x2 : w9.cell? ⟨n10, 2, none⟩ = some (.int .i64 1) := KX9.out.cell 2
                  have x3 : w9.cell? ⟨n10, 3, none⟩ = some (.string ⟨#[]⟩) := KX9.out.cell 3
                  have x4 : w9.cell? ⟨n10, 4, none⟩ = some (.int .i64 0) := KX9.out.cell 4
                  have xl := KX9.out.lt
                  have z0 : w9.cell? ⟨n8, 0, none⟩ = some (.int .i64 k5.k) := K9.out.cell 0
                  have z1 : w9.cell? ⟨n8, 1, none⟩ = some (.int .i64 k5.p) := K9.out.cell 1
                  have z2 : w9.cell? ⟨n8, 2, none⟩ = some (.int .i64 k5.q) := K9.out.cell 2
                  have z3 : w9.cell? ⟨n8, 3, none⟩ = some (.string k5.s) := K9.out.cell 3
                  have z4 : w9.cell? ⟨n8, 4, none⟩ = some (.int .i64 k5.r) := K9.out.cell 4
                  have zl := K9.out.lt
                  have zf0 := K9.out.fz 0
                  have zf1 := K9.out.fz 1
                  have zf2 := K9.out.fz 2
                  have zf3 := K9.out.fz 3
                  have zf4 := K9.out.fz 4
                  have HXF : Hid (Fw w.heap.size t i g4 D va7 b7 q7 m7 s (st5 w9 n8 (.int .i64 2) (.int .i64 ((j : Int) + 1)) (.int .i64 1) (.string ⟨#[]⟩) (.int .i64 0))) := Lib.hid (by
                    have hc : Ch [n8] w9 (st5 w9 n8 (.int .i64 2) (.int .i64 ((j : Int) + 1)) (.int .i64 1) (.string ⟨#[]⟩) (.int .i64 0)) := st5_ch (Ch.refl _ _) (.inl (by simp))
                    exact ⟨HX9.out.tb.ch hc (fun g hg q => by rw [List.mem_singleton] at q; rw [q] at hg; exact HN7.out.1 hg), HX9.out.fi, HX9.out.mi.ch hc (by simp; exact HG48.out), HX9.out.nn, HX9.out.nb⟩)
                  have KF : Hid (Blk 26 n8 #[.int .i64 2, .int .i64 ((j : Int) + 1), .int .i64 1, .string ⟨#[]⟩, .int .i64 0] (st5 w9 n8 (.int .i64 2) (.int .i64 ((j : Int) + 1)) (.int .i64 1) (.string ⟨#[]⟩) (.int .i64 0))) := Lib.hid (st5_blk K9.out)
                  have HBF : Hid (Below w.heap.size w (st5 w9 n8 (.int .i64 2) (.int .i64 ((j : Int) + 1)) (.int .i64 1) (.string ⟨#[]⟩) (.int .i64 0))) := Lib.hid (HB9.out.trans (Ch.belowB (S := [n8]) (st5_ch (Ch.refl _ _) (.inl (by simp))) (fun g hg => by rw [List.mem_singleton] at hg; rw [hg]; exact HN7.out.2) HB9.out.size))
                  unfold st5 at HXF KF HBF
                  go_wp2_with fail
                  go_roundw
                  (case rel => exact ⟨j + 1, va7, b7, q7, m7, (⟨2, ((j : Int) + 1), 1, ⟨#[]⟩, 0⟩ : V5), by go_num, Lib.hid (by have := HJN.out; omega), Lib.hid (by rw [if_neg (by omega), show (((j + 1 : Nat)) : Int) = ((j : Int) + 1) by omega, HKE.out]), HXF, KF, HN7, HBF⟩)
                  (case measure => have := HJN.out; simp [intOf]; omega))
              · have hj2 : ¬ ((j : Int) + 1) ≤ (N : Int) := by omega
                go_wp2_with (go_at_call 10; (with_reducible refine (HAW.out _).mono ?_); rintro e wz ⟨rfl, hbz⟩)
                go_ret
                exact ⟨rfl, HB.out.trans (hbz.mono HB.out.size)⟩
  · have hl2 : (200 : Int) < (l.length : Int) := by omega
    clear hl
    go_wp2_with (go_at_call 10; (with_reducible refine (HAW.out _).mono ?_); rintro e wz ⟨rfl, hbz⟩)
    go_ret
    exact ⟨rfl, hbz⟩
end Go.Proofs.Ytaaelhhiceildaa.tableFillsLaw
