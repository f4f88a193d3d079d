/- Layer 18: the walk of RegistryFull. -/
import Derived.Test.YtbfeahafogbbhaaRegF
namespace Go.Proofs.Ytbfeahafogbbhaa
open Go.RowKit Go.Joins M1
set_option linter.unusedVariables false
theorem ref_repx (i : Nat) (x : V5) : refR (List.replicate i x) [] = (i : Int) + 1 ∧ refK (List.replicate i x) [] x = List.replicate (i + 1) x := by
  refine ⟨by simp [refR], ?_⟩
  show List.replicate i x ++ [x] = _
  rw [List.replicate_succ']
theorem held_repx (m R : Nat) (x : V5) (hx : x.k ≠ 0) (h1 : 1 ≤ R) (h2 : R ≤ m) : heldB (List.replicate m x) (R : Int) = true := by
  unfold heldB
  have : ((R : Int).toNat - 1) < m := by omega
  rw [List.getElem?_replicate, if_pos this]
  simp [h2, hx]
  omega
theorem len_del_some (N : MP) (k : ByteArray) (h : look N k ≠ none) : (delM N k).length + 1 = N.length := by
  induction N with
  | nil => exact absurd rfl h
  | cons a l ih =>
    obtain ⟨v, i⟩ := a
    unfold look at h
    unfold delM
    by_cases he : k = v
    · simp [he]
    · rw [if_neg he] at h
      simp only [if_neg he, List.length_cons]
      have := ih h; omega
theorem names_one (x : V5) (hk : okV x = true) (hz : ¬ x.k = 0) : ∃ N1, putN (nmB 1) x (namesN 1000 x) = N1 ∧ putE (nmB 1) x (namesN 1000 x) = 0 ∧ N1.length = 1000 ∧ look N1 (nmB 2) ≠ none := by
  have e := names_there x hk hz
  have h1 := look_names_yes 1000 x 1 (by omega) (by omega)
  have e2 : putN (nmB 1) x (namesN 1000 x) = putM (namesN 1000 x) (nmB 1) x := by unfold putN; rw [if_pos e, if_neg hz]
  refine ⟨_, rfl, e, ?_, ?_⟩
  · rw [e2, len_put, h1, namesN_len]; rfl
  · rw [e2, look_put, if_neg (fun q => by have := nmB_inj q; omega), look_names_yes 1000 x 2 (by omega) (by omega)]; simp
theorem names_two (N1 : MP) (hl : N1.length = 1000) (h : look N1 (nmB 2) ≠ none) : ∃ N2, putN (nmB 2) v5z N1 = N2 ∧ putE (nmB 2) v5z N1 = 0 ∧ N2.length ≠ 1000 := by
  have e : putE (nmB 2) v5z N1 = 0 := by unfold putE; rw [if_neg (by rw [nmB_size]; omega), if_neg (by decide +kernel), if_pos (show v5z.k = 0 from rfl)]
  refine ⟨_, rfl, e, ?_⟩
  unfold putN
  rw [if_pos e, if_pos (show v5z.k = 0 from rfl)]
  have := len_del_some N1 _ h
  omega
theorem other_ok (x : V5) (N2 : MP) (hk : okV x = true) (hz : ¬ x.k = 0) (h : N2.length ≠ 1000) : putE otherB x N2 = 0 := by
  unfold putE
  rw [if_neg (by decide), if_neg (by rw [hk]; simp), if_neg hz, if_neg (fun q => h q.2)]
def BS (k p q : Int) (s : ByteArray) (r : Int) (b0 : Nat) (w : World) : Prop := w.cell? ⟨b0, 0, none⟩ = some (.int .i64 k) ∧ w.cell? ⟨b0, 1, none⟩ = some (.int .i64 p) ∧ w.cell? ⟨b0, 2, none⟩ = some (.int .i64 q) ∧ w.cell? ⟨b0, 3, none⟩ = some (.string s) ∧ w.cell? ⟨b0, 4, none⟩ = some (.int .i64 r) ∧ b0 < w.heap.size
theorem bs_of {k p q : Int} {s : ByteArray} {r : Int} {b0 : Nat} {w : World} (h : Blk 33 b0 #[.int .i64 k, .int .i64 p, .int .i64 q, .string s, .int .i64 r] w) : BS k p q s r b0 w := ⟨h.cell 0, h.cell 1, h.cell 2, h.cell 3, h.cell 4, h.lt⟩
set_option maxRecDepth 20000 in
set_option maxHeartbeats 8000000 in
theorem walkF (k p q : Int) (s : ByteArray) (r n : Int) (wn : (Lit.int .u16 n).wf = true) (w : World) :
    Calls Try.prog 6 #[.agg #[.int .i64 k, .int .i64 p, .int .i64 q, .string s, .int .i64 r], .int .u16 n] w fun e w' => e = .returned (.bool true) ∧ Below w.heap.size w w' := by
  have hn : 0 ≤ n ∧ n ≤ 65535 := by simpa [Lit.wf, IntKind.min, IntKind.max, IntKind.signed, IntKind.bits] using wn
  have HC0 : Hid (Ch [] w (w.alloc (.cells #[.int .i64 k, .int .i64 p, .int .i64 q, .string s, .int .i64 r] 33))) := Lib.hid ((Ch.refl [] w).alloc _)
  have HA0 : Hid (Blk 33 w.heap.size #[.int .i64 k, .int .i64 p, .int .i64 q, .string s, .int .i64 r] (w.alloc (.cells #[.int .i64 k, .int .i64 p, .int .i64 q, .string s, .int .i64 r] 33))) := Lib.hid (Blk.new w _ _ _ rfl)
  have QN := Lib.hid fun w0 => fw_new w0
  have QA := Lib.hid fun W => lives_any W
  have QV := Lib.hid fun W => rvalid5 k p q s r W
  clear wn
  go_enter Try.func6, Try.ntmps6
  go_upto_region 2 with (obtain ⟨b0, hb0⟩ : ∃ b, b = w.heap.size := ⟨_, rfl⟩; rw [← hb0] at HA0 ⊢; have HB := Lib.hid hb0; clear hb0; generalize (w.alloc (.cells #[.int .i64 k, .int .i64 p, .int .i64 q, .string s, .int .i64 r] 33)) = w0 at *; go_at_call 12; (with_reducible refine (QN.out _).mono ?_); rintro e w1 ⟨t, rfl, hf⟩; have HS1 := Lib.hid hf; clear hf; have HA1 := Lib.hid (HA0.out.ch HS1.out.ch (not_nil _)); have a0 : w1.cell? ⟨b0, 0, none⟩ = some (.int .i64 k) := HA1.out.cell 0; have a1 : w1.cell? ⟨b0, 1, none⟩ = some (.int .i64 p) := HA1.out.cell 1; have a2 : w1.cell? ⟨b0, 2, none⟩ = some (.int .i64 q) := HA1.out.cell 2; have a3 : w1.cell? ⟨b0, 3, none⟩ = some (.string s) := HA1.out.cell 3; have a4 : w1.cell? ⟨b0, 4, none⟩ = some (.int .i64 r) := HA1.out.cell 4; have al := HA1.out.lt)
  cases hv : validF k p q s r with
  | false =>
    rw [hv] at QV
    clear hv
    go_wp2_with (first | (go_at_call 19; (with_reducible refine (QV.out _).mono ?_); rintro e w2 ⟨rfl, hb⟩; have HC2 := Lib.hid (HS1.out.ch.trans (Ch.of_below hb)); clear hb) | (go_at_call 11; (with_reducible refine (QA.out _).mono ?_); rintro e w3 ⟨rfl, hc⟩; have HC3 := Lib.hid hc; clear hc))
    go_ret
    exact ⟨rfl, ((HC0.out.trans HC2.out).trans HC3.out).below⟩
  | true =>
    rw [hv] at QV
    have hv' : okV (⟨k, p, q, s, r⟩ : V5) = true := hv
    by_cases hz : k = 0
    · have hzb : (k == 0) = true := by rw [beq_iff_eq]; exact hz
      clear hz hv hv'
      go_wp2_with (first | (go_at_call 19; (with_reducible refine (QV.out _).mono ?_); rintro e w2 ⟨rfl, hb⟩; have HC2 := Lib.hid (HS1.out.ch.trans (Ch.of_below hb)); clear a0 a1 a2 a3 a4 al; have HA2 := Lib.hid (HA0.out.ch HC2.out (not_nil _)); have a0 : w2.cell? ⟨b0, 0, none⟩ = some (.int .i64 k) := HA2.out.cell 0; have a1 : w2.cell? ⟨b0, 1, none⟩ = some (.int .i64 p) := HA2.out.cell 1; have a2 : w2.cell? ⟨b0, 2, none⟩ = some (.int .i64 q) := HA2.out.cell 2; have a3 : w2.cell? ⟨b0, 3, none⟩ = some (.string s) := HA2.out.cell 3; have a4 : w2.cell? ⟨b0, 4, none⟩ = some (.int .i64 r) := HA2.out.cell 4; have al := HA2.out.lt; clear hb) | (go_at_call 11; (with_reducible refine (QA.out _).mono ?_); rintro e w3 ⟨rfl, hc⟩; have HC3 := Lib.hid hc; clear hc))
      go_ret
      exact ⟨rfl, ((HC0.out.trans HC2.out).trans HC3.out).below⟩
    · have hzb : (k == 0) = false := by rw [beq_eq_false_iff_ne]; exact hz
      have HVK : Hid (okV (⟨k, p, q, s, r⟩ : V5) = true ∧ ¬ ((⟨k, p, q, s, r⟩ : V5)).k = 0) := Lib.hid ⟨hv', hz⟩
      clear hz hv hv'
      go_upto_region 6 with (go_at_call 19; (with_reducible refine (QV.out _).mono ?_); rintro e w2 ⟨rfl, hb⟩; have HS2 := Lib.hid (HS1.out.step (Ch.of_below hb)); clear a0 a1 a2 a3 a4 al; have HA2 := Lib.hid (HA0.out.ch HS2.out.ch (not_nil _)); have a0 : w2.cell? ⟨b0, 0, none⟩ = some (.int .i64 k) := HA2.out.cell 0; have a1 : w2.cell? ⟨b0, 1, none⟩ = some (.int .i64 p) := HA2.out.cell 1; have a2 : w2.cell? ⟨b0, 2, none⟩ = some (.int .i64 q) := HA2.out.cell 2; have a3 : w2.cell? ⟨b0, 3, none⟩ = some (.string s) := HA2.out.cell 3; have a4 : w2.cell? ⟨b0, 4, none⟩ = some (.int .i64 r) := HA2.out.cell 4; have al := HA2.out.lt; clear hb)
      have HX : Hid (FW w0 t (List.replicate 0 (⟨k, p, q, s, r⟩ : V5)) [] (namesN 0 (⟨k, p, q, s, r⟩ : V5)) w2) := HS2
      clear a0 a1 a2 a3 a4 al
      go_wp2
      go_loopw [6] (fun v6 wr => ∃ i : Nat, i ≤ 1000 ∧ v6 = .int .i64 ((i : Int) + 1) ∧ Hid (FW w0 t (List.replicate i (⟨k, p, q, s, r⟩ : V5)) [] (namesN i (⟨k, p, q, s, r⟩ : V5)) wr)) (fun v6 _ => 1002 - (intOf v6).toNat)
      case atStart => exact ⟨0, by omega, rfl, HX⟩
      case round =>
        obtain ⟨i, hi, rfl, HX⟩ := hrel
        rename World => wr
        have HAr := Lib.hid (HA0.out.ch HX.out.ch (not_nil _))
        have a0 : wr.cell? ⟨b0, 0, none⟩ = some (.int .i64 k) := HAr.out.cell 0; have a1 : wr.cell? ⟨b0, 1, none⟩ = some (.int .i64 p) := HAr.out.cell 1; have a2 : wr.cell? ⟨b0, 2, none⟩ = some (.int .i64 q) := HAr.out.cell 2; have a3 : wr.cell? ⟨b0, 3, none⟩ = some (.string s) := HAr.out.cell 3; have a4 : wr.cell? ⟨b0, 4, none⟩ = some (.int .i64 r) := HAr.out.cell 4; have al := HAr.out.lt
        by_cases hlt : i < 1000
        · have hlt' : (i : Int) + 1 ≤ 1000 := by omega
          have di : IntKind.i64.wrap ((i : Int) + 1 + 1) = (i : Int) + 1 + 1 := IntWalk.i64_in _ (by omega)
          have HLT := Lib.hid hlt
          have QR : Hid (∀ W, FW w0 t (List.replicate i (⟨k, p, q, s, r⟩ : V5)) [] (namesN i (⟨k, p, q, s, r⟩ : V5)) W → Calls Try.prog 18 #[.pointer (some ⟨t, 0, none⟩), .agg #[.int .i64 k, .int .i64 p, .int .i64 q, .string s, .int .i64 r]] W fun e w' => e = .returned (.tuple #[.int .i64 ((i : Int) + 1), .int .i64 0]) ∧ FW w0 t (List.replicate (i + 1) (⟨k, p, q, s, r⟩ : V5)) [] (namesN i (⟨k, p, q, s, r⟩ : V5)) w') := Lib.hid fun W h => by
            have e := ref_repx i (⟨k, p, q, s, r⟩ : V5)
            have := fw_ref h (⟨k, p, q, s, r⟩ : V5) HVK.out.1 HVK.out.2 (by have := HLT.out; simp; omega)
            rw [e.1, e.2] at this
            exact this
          have QS : Hid (∀ W, Calls Try.prog 23 #[.string ⟨#[110]⟩, .int .i64 ((i : Int) + 1)] W fun e w' => e = .returned (.string (nmB (i + 1))) ∧ Below W.heap.size W w') := Lib.hid fun W => by
            have := rep_n (i + 1) (by have := HLT.out; omega) W
            rw [show ((i + 1 : Nat) : Int) = (i : Int) + 1 by omega] at this
            exact this
          have QP : Hid (∀ W, FW w0 t (List.replicate (i + 1) (⟨k, p, q, s, r⟩ : V5)) [] (namesN i (⟨k, p, q, s, r⟩ : V5)) W → Calls Try.prog 22 #[.pointer (some ⟨t, 0, none⟩), .string (nmB (i + 1)), .agg #[.int .i64 k, .int .i64 p, .int .i64 q, .string s, .int .i64 r]] W fun e w' => e = .returned (.int .i64 0) ∧ FW w0 t (List.replicate (i + 1) (⟨k, p, q, s, r⟩ : V5)) [] (namesN (i + 1) (⟨k, p, q, s, r⟩ : V5)) w') := Lib.hid fun W h => by
            have e := put_names i (⟨k, p, q, s, r⟩ : V5) HLT.out HVK.out.1 HVK.out.2
            have := fw_put h (nmB (i + 1)) (⟨k, p, q, s, r⟩ : V5)
            rw [e.1, e.2] at this
            exact this
          generalize nmB (i + 1) = nx at *
          clear hlt hi
          go_upto_region 12 with (go_at_call 18; (with_reducible refine (QR.out _ HX.out).mono ?_); rintro e w3 ⟨rfl, hf⟩; have HX3 := Lib.hid (hf.step (Ch.refl [] _).drew); clear hf; clear a0 a1 a2 a3 a4 al; have HA3 := Lib.hid (HA0.out.ch HX3.out.ch (not_nil _)))
          have hS0 : BS k p q s r b0 w3.drew := bs_of HA3.out
          go_region_held3 (fun w' => w'.cell? ⟨b0, 0, none⟩ = some (.int .i64 k) ∧ w'.cell? ⟨b0, 1, none⟩ = some (.int .i64 p) ∧ w'.cell? ⟨b0, 2, none⟩ = some (.int .i64 q) ∧ w'.cell? ⟨b0, 3, none⟩ = some (.string s) ∧ w'.cell? ⟨b0, 4, none⟩ = some (.int .i64 r) ∧ b0 < w'.heap.size) (first | assumption | exact hS0) (first | (go_at_call 23; (with_reducible refine (QS.out _).mono ?_); rintro e w4 ⟨rfl, hb⟩; have HX4 := Lib.hid (HX3.out.step (Ch.of_below hb)); clear hb; have hq4 := bs_of (HA0.out.ch HX4.out.ch (not_nil _)); unfold BS at hq4) | (go_at_call 22; (with_reducible refine (QP.out _ HX4.out).mono ?_); rintro e w5 ⟨rfl, hf⟩; have HX5 := Lib.hid hf; clear hf; have hq5 := bs_of (HA0.out.ch HX5.out.ch (not_nil _)); unfold BS at hq5))
          all_goals (
            go_wp2
            go_roundw
            case rel => exact ⟨i + 1, by have := HLT.out; omega, by go_num, HX5⟩
            case measure => simp [intOf]; omega)
        · obtain rfl : i = 1000 := by omega
          have hlt' : ¬ ((1000 : Nat) : Int) + 1 ≤ 1000 := by omega
          clear hlt hi
          obtain ⟨R, hR⟩ : ∃ R : Nat, R = (n.tmod 1000).toNat + 1 := ⟨_, rfl⟩
          have ht0 : 0 ≤ n.tmod 1000 := Int.tmod_nonneg _ hn.1
          have ht1 := Int.tmod_lt_of_pos n (show (0 : Int) < 1000 by decide)
          have e1 : 1 + n.tmod 1000 = (R : Int) := by omega
          have e2 : 1 + n % 1000 = (R : Int) := by rw [← Int.tmod_eq_emod_of_nonneg hn.1]; exact e1
          have e3 : IntKind.i64.wrap n = n := IntWalk.i64_in _ (by omega)
          have HR : Hid (1 ≤ R ∧ R ≤ 1000) := Lib.hid (by omega)
          clear hR ht0 ht1
          have QF : Hid (∀ W, FW w0 t (List.replicate 1000 (⟨k, p, q, s, r⟩ : V5)) [] (namesN 1000 (⟨k, p, q, s, r⟩ : V5)) W → Calls Try.prog 18 #[.pointer (some ⟨t, 0, none⟩), .agg #[.int .i64 k, .int .i64 p, .int .i64 q, .string s, .int .i64 r]] W fun e w' => e = .returned (.tuple #[.int .i64 0, .int .i64 17]) ∧ FW w0 t (List.replicate 1000 (⟨k, p, q, s, r⟩ : V5)) [] (namesN 1000 (⟨k, p, q, s, r⟩ : V5)) w') := Lib.hid fun W h => fw_full h (⟨k, p, q, s, r⟩ : V5) HVK.out.1 HVK.out.2 (by simp)
          have QO : Hid (∀ W, FW w0 t (List.replicate 1000 (⟨k, p, q, s, r⟩ : V5)) [] (namesN 1000 (⟨k, p, q, s, r⟩ : V5)) W → Calls Try.prog 22 #[.pointer (some ⟨t, 0, none⟩), .string ⟨#[111, 116, 104, 101, 114]⟩, .agg #[.int .i64 k, .int .i64 p, .int .i64 q, .string s, .int .i64 r]] W fun e w' => e = .returned (.int .i64 17) ∧ FW w0 t (List.replicate 1000 (⟨k, p, q, s, r⟩ : V5)) [] (namesN 1000 (⟨k, p, q, s, r⟩ : V5)) w') := Lib.hid fun W h => by
            have e := names_full (⟨k, p, q, s, r⟩ : V5) HVK.out.1 HVK.out.2
            have := fw_put h otherB (⟨k, p, q, s, r⟩ : V5)
            rw [e.1, e.2] at this
            exact this
          obtain ⟨N1, hN1, hp1, hl1, hk1⟩ : ∃ N1, putN (nmB 1) (⟨k, p, q, s, r⟩ : V5) (namesN 1000 (⟨k, p, q, s, r⟩ : V5)) = N1 ∧ putE (nmB 1) (⟨k, p, q, s, r⟩ : V5) (namesN 1000 (⟨k, p, q, s, r⟩ : V5)) = 0 ∧ N1.length = 1000 ∧ look N1 (nmB 2) ≠ none := names_one (⟨k, p, q, s, r⟩ : V5) HVK.out.1 HVK.out.2
          have QP1 : Hid (∀ W, FW w0 t (List.replicate 1000 (⟨k, p, q, s, r⟩ : V5)) [] (namesN 1000 (⟨k, p, q, s, r⟩ : V5)) W → Calls Try.prog 22 #[.pointer (some ⟨t, 0, none⟩), .string ⟨#[110]⟩, .agg #[.int .i64 k, .int .i64 p, .int .i64 q, .string s, .int .i64 r]] W fun e w' => e = .returned (.int .i64 0) ∧ FW w0 t (List.replicate 1000 (⟨k, p, q, s, r⟩ : V5)) [] N1 w') := Lib.hid fun W h => by
            have := fw_put h (nmB 1) (⟨k, p, q, s, r⟩ : V5)
            rw [hp1, hN1] at this
            exact this
          have QL : Hid (∀ W, FW w0 t (List.replicate 1000 (⟨k, p, q, s, r⟩ : V5)) [] N1 W → Calls Try.prog 17 #[.pointer (some ⟨t, 0, none⟩)] W fun e w' => e = .returned (.int .i64 2000) ∧ FW w0 t (List.replicate 1000 (⟨k, p, q, s, r⟩ : V5)) [] N1 w') := Lib.hid fun W h => by
            have := fw_len h
            rw [hl1, List.length_replicate] at this
            exact this
          obtain ⟨K1, hK1⟩ : ∃ K1, unK (List.replicate 1000 (⟨k, p, q, s, r⟩ : V5)) (R : Int) = K1 := ⟨_, rfl⟩
          have HK1 : Hid (K1.length = 1000) := Lib.hid (by rw [← hK1]; simp [unK])
          have QU : Hid (∀ W, FW w0 t (List.replicate 1000 (⟨k, p, q, s, r⟩ : V5)) [] N1 W → Calls Try.prog 21 #[.pointer (some ⟨t, 0, none⟩), .int .i64 (R : Int)] W fun e w' => e = .returned (.int .i64 0) ∧ FW w0 t K1 [(R : Int)] N1 w') := Lib.hid fun W h => by
            have := fw_unref h (R : Int) (held_repx 1000 R (⟨k, p, q, s, r⟩ : V5) HVK.out.2 HR.out.1 HR.out.2)
            rw [hK1] at this
            exact this
          obtain ⟨N2, hN2, hp2, hl2⟩ : ∃ N2, putN (nmB 2) v5z N1 = N2 ∧ putE (nmB 2) v5z N1 = 0 ∧ N2.length ≠ 1000 := names_two N1 hl1 hk1
          have QP2 : Hid (∀ W, FW w0 t K1 [(R : Int)] N1 W → Calls Try.prog 22 #[.pointer (some ⟨t, 0, none⟩), .string ⟨#[110, 110]⟩, .agg #[.int .i64 0, .int .i64 0, .int .i64 0, .string ⟨#[]⟩, .int .i64 0]] W fun e w' => e = .returned (.int .i64 0) ∧ FW w0 t K1 [(R : Int)] N2 w') := Lib.hid fun W h => by
            have := fw_put h (nmB 2) v5z
            rw [hp2, hN2] at this
            exact this
          have QG : Hid (∀ W, FW w0 t K1 [(R : Int)] N2 W → Calls Try.prog 18 #[.pointer (some ⟨t, 0, none⟩), .agg #[.int .i64 k, .int .i64 p, .int .i64 q, .string s, .int .i64 r]] W fun e w' => e = .returned (.tuple #[.int .i64 (R : Int), .int .i64 0]) ∧ FW w0 t (refK K1 [(R : Int)] (⟨k, p, q, s, r⟩ : V5)) [] N2 w') := Lib.hid fun W h => fw_ref h (⟨k, p, q, s, r⟩ : V5) HVK.out.1 HVK.out.2 (by rw [HK1.out]; simp)
          have QO2 : Hid (∀ W K F, FW w0 t K F N2 W → Calls Try.prog 22 #[.pointer (some ⟨t, 0, none⟩), .string ⟨#[111, 116, 104, 101, 114]⟩, .agg #[.int .i64 k, .int .i64 p, .int .i64 q, .string s, .int .i64 r]] W fun e w' => e = .returned (.int .i64 0) ∧ FW w0 t K F (putN otherB (⟨k, p, q, s, r⟩ : V5) N2) w') := Lib.hid fun W K F h => by
            have := fw_put h otherB (⟨k, p, q, s, r⟩ : V5)
            rw [other_ok (⟨k, p, q, s, r⟩ : V5) N2 HVK.out.1 HVK.out.2 hl2] at this
            exact this
          clear hN1 hp1 hl1 hk1 hK1 hN2 hp2 hl2 hn
          go_upto_region 17 with (first | (go_at_call 18; (with_reducible refine (QF.out _ HX.out).mono ?_); rintro e w3 ⟨rfl, hf⟩; have HX3 := Lib.hid hf; clear hf; clear a0 a1 a2 a3 a4 al; have HA3 := Lib.hid (HA0.out.ch HX3.out.ch (not_nil _)); have a0 : w3.cell? ⟨b0, 0, none⟩ = some (.int .i64 k) := HA3.out.cell 0; have a1 : w3.cell? ⟨b0, 1, none⟩ = some (.int .i64 p) := HA3.out.cell 1; have a2 : w3.cell? ⟨b0, 2, none⟩ = some (.int .i64 q) := HA3.out.cell 2; have a3 : w3.cell? ⟨b0, 3, none⟩ = some (.string s) := HA3.out.cell 3; have a4 : w3.cell? ⟨b0, 4, none⟩ = some (.int .i64 r) := HA3.out.cell 4; have al := HA3.out.lt) | (go_at_call 22; (with_reducible refine (QO.out _ HX3.out).mono ?_); rintro e w4 ⟨rfl, hf⟩; have HX4 := Lib.hid hf; clear hf; clear a0 a1 a2 a3 a4 al; have HA4 := Lib.hid (HA0.out.ch HX4.out.ch (not_nil _)); have a0 : w4.cell? ⟨b0, 0, none⟩ = some (.int .i64 k) := HA4.out.cell 0; have a1 : w4.cell? ⟨b0, 1, none⟩ = some (.int .i64 p) := HA4.out.cell 1; have a2 : w4.cell? ⟨b0, 2, none⟩ = some (.int .i64 q) := HA4.out.cell 2; have a3 : w4.cell? ⟨b0, 3, none⟩ = some (.string s) := HA4.out.cell 3; have a4 : w4.cell? ⟨b0, 4, none⟩ = some (.int .i64 r) := HA4.out.cell 4; have al := HA4.out.lt))
          go_upto_region 18 with fail
          clear HX3 HA3 HX QF QO
          go_wp2_with (first | (go_at_call 22; (with_reducible refine (QP1.out _ HX4.out).mono ?_); rintro e w5 ⟨rfl, hf⟩; have HX5 := Lib.hid hf; clear hf; clear a0 a1 a2 a3 a4 al; have HA5 := Lib.hid (HA0.out.ch HX5.out.ch (not_nil _)); have a0 : w5.cell? ⟨b0, 0, none⟩ = some (.int .i64 k) := HA5.out.cell 0; have a1 : w5.cell? ⟨b0, 1, none⟩ = some (.int .i64 p) := HA5.out.cell 1; have a2 : w5.cell? ⟨b0, 2, none⟩ = some (.int .i64 q) := HA5.out.cell 2; have a3 : w5.cell? ⟨b0, 3, none⟩ = some (.string s) := HA5.out.cell 3; have a4 : w5.cell? ⟨b0, 4, none⟩ = some (.int .i64 r) := HA5.out.cell 4; have al := HA5.out.lt) | (go_at_call 17; (with_reducible refine (QL.out _ HX5.out).mono ?_); rintro e w6 ⟨rfl, hf⟩; have HX6 := Lib.hid hf; clear hf; clear a0 a1 a2 a3 a4 al; have HA6 := Lib.hid (HA0.out.ch HX6.out.ch (not_nil _)); have a0 : w6.cell? ⟨b0, 0, none⟩ = some (.int .i64 k) := HA6.out.cell 0; have a1 : w6.cell? ⟨b0, 1, none⟩ = some (.int .i64 p) := HA6.out.cell 1; have a2 : w6.cell? ⟨b0, 2, none⟩ = some (.int .i64 q) := HA6.out.cell 2; have a3 : w6.cell? ⟨b0, 3, none⟩ = some (.string s) := HA6.out.cell 3; have a4 : w6.cell? ⟨b0, 4, none⟩ = some (.int .i64 r) := HA6.out.cell 4; have al := HA6.out.lt) | (go_at_call 21; (with_reducible refine (QU.out _ HX6.out).mono ?_); rintro e w7 ⟨rfl, hf⟩; have HX7 := Lib.hid hf; clear hf; clear a0 a1 a2 a3 a4 al; have HA7 := Lib.hid (HA0.out.ch HX7.out.ch (not_nil _)); have a0 : w7.cell? ⟨b0, 0, none⟩ = some (.int .i64 k) := HA7.out.cell 0; have a1 : w7.cell? ⟨b0, 1, none⟩ = some (.int .i64 p) := HA7.out.cell 1; have a2 : w7.cell? ⟨b0, 2, none⟩ = some (.int .i64 q) := HA7.out.cell 2; have a3 : w7.cell? ⟨b0, 3, none⟩ = some (.string s) := HA7.out.cell 3; have a4 : w7.cell? ⟨b0, 4, none⟩ = some (.int .i64 r) := HA7.out.cell 4; have al := HA7.out.lt) | (go_at_call 22; (with_reducible refine (QP2.out _ HX7.out).mono ?_); rintro e w8 ⟨rfl, hf⟩; have HX8 := Lib.hid hf; clear hf; clear a0 a1 a2 a3 a4 al; have HA8 := Lib.hid (HA0.out.ch HX8.out.ch (not_nil _)); have a0 : w8.cell? ⟨b0, 0, none⟩ = some (.int .i64 k) := HA8.out.cell 0; have a1 : w8.cell? ⟨b0, 1, none⟩ = some (.int .i64 p) := HA8.out.cell 1; have a2 : w8.cell? ⟨b0, 2, none⟩ = some (.int .i64 q) := HA8.out.cell 2; have a3 : w8.cell? ⟨b0, 3, none⟩ = some (.string s) := HA8.out.cell 3; have a4 : w8.cell? ⟨b0, 4, none⟩ = some (.int .i64 r) := HA8.out.cell 4; have al := HA8.out.lt) | (go_at_call 18; (with_reducible refine (QG.out _ HX8.out).mono ?_); rintro e w9 ⟨rfl, hf⟩; have HX9 := Lib.hid hf; clear hf; clear a0 a1 a2 a3 a4 al; have HA9 := Lib.hid (HA0.out.ch HX9.out.ch (not_nil _)); have a0 : w9.cell? ⟨b0, 0, none⟩ = some (.int .i64 k) := HA9.out.cell 0; have a1 : w9.cell? ⟨b0, 1, none⟩ = some (.int .i64 p) := HA9.out.cell 1; have a2 : w9.cell? ⟨b0, 2, none⟩ = some (.int .i64 q) := HA9.out.cell 2; have a3 : w9.cell? ⟨b0, 3, none⟩ = some (.string s) := HA9.out.cell 3; have a4 : w9.cell? ⟨b0, 4, none⟩ = some (.int .i64 r) := HA9.out.cell 4; have al := HA9.out.lt) | (go_at_call 22; (with_reducible refine (QO2.out _ _ _ HX9.out).mono ?_); rintro e w10 ⟨rfl, hf⟩; have HX10 := Lib.hid hf; clear hf; clear a0 a1 a2 a3 a4 al) | (go_at_call 11; (with_reducible refine (QA.out _).mono ?_); rintro e w11 ⟨rfl, hc⟩; have HC11 := Lib.hid hc; clear hc))
          go_ret
          exact ⟨rfl, ((HC0.out.trans HX10.out.ch).trans HC11.out).below⟩
end Go.Proofs.Ytbfeahafogbbhaa
