/- Contracts of layer 2: decimals. -/
import Derived.Test.YtbdcmnhfmkefdaaGreatDoorNumU
namespace Go.Proofs.YtbdcmnhfmkefdaaGreatDoor
open Go.RowKit Go.Sort M1 M2
set_option linter.unusedVariables false
theorem rounded_any (p : Int) (q : Int) (k : Nat) (w : World) (hv : vld p q = true) (hk : k ≤ 12) :
    Calls Tryz.prog 107 #[.agg #[.int .i64 p, .int .i64 q], .int .i64 k] w fun e w' => e = .returned (.tuple #[.int .i64 ((fixT p.natAbs q.toNat k / 10 ^ k : Nat) : Int), .int .i64 ((fixT p.natAbs q.toNat k % 10 ^ k : Nat) : Int)]) ∧ RowKit.Below w.heap.size w w' := by
  obtain ⟨h1, h2, h3, h4, _⟩ := vld_iff.1 hv
  obtain ⟨Q, rfl⟩ := Int.eq_ofNat_of_zero_le (show 0 ≤ q by omega)
  rw [Int.toNat_natCast]
  by_cases hp : 0 ≤ p
  · obtain ⟨a, rfl⟩ := Int.eq_ofNat_of_zero_le hp
    exact rounded_pos a Q k w (by omega) (by omega) (by omega) hk
  · obtain ⟨a, ha⟩ : ∃ a : Nat, p = -(a : Int) := ⟨p.natAbs, by omega⟩
    subst ha
    rw [show (-(a : Int)).natAbs = a by omega]
    exact rounded_neg a Q k w (by omega) (by omega) (by omega) (by omega) hk
def fixS (p q k : Int) : List UInt8 := if vld p q = true ∧ 0 ≤ k ∧ k ≤ 12 then fixL p q.toNat k.toNat else []
def fixE (p q k : Int) : Int := if vld p q = true ∧ 0 ≤ k ∧ k ≤ 12 then 0 else 2
theorem slice12 (B k : Nat) (hk : k ≤ 12) (hk0 : 0 < k) (W : World) : (Instr.sliceAt 147 (.pointer (some ⟨B, 0, none⟩)) none (some (.int .i64 (k : Int))) none).run Tryz.prog W = .ok (.slice (some ⟨B, 0, none⟩) k 12) W := by
  have al : Tryz.prog.arrayLen 147 = 12 := by kernel_rfl
  have sz : (sizeOf (Tryz.prog.elem 147)).run Tryz.prog W = .ok 1 W := by kernel_rfl
  rw [run_sliceAt_array_h W 147 _ (by kernel_rfl) .i64 k (by omega) (by rw [al]; omega), sz, al]
  simp [slicedAt, Result.andThen, Addr.add]
def zero12 : Obj := .cells #[.int .u8 0, .int .u8 0, .int .u8 0, .int .u8 0, .int .u8 0, .int .u8 0, .int .u8 0, .int .u8 0, .int .u8 0, .int .u8 0, .int .u8 0, .int .u8 0] 147
theorem holds_12 (w : World) : Holds eB (w.alloc zero12) w.heap.size 0 (rowL 12 []) := fun j hj => by
  have hj' : j < 12 := by rw [rowL_size] at hj; simpa using hj
  refine ⟨?_, World.frozen?_alloc_new _ _ _ _⟩
  unfold zero12
  rw [World.cell?_alloc_new, Nat.zero_add]
  have e : (#[.int .u8 0, .int .u8 0, .int .u8 0, .int .u8 0, .int .u8 0, .int .u8 0, .int .u8 0, .int .u8 0, .int .u8 0, .int .u8 0, .int .u8 0, .int .u8 0] : Array Value) = Array.replicate 12 (.int .u8 0) := rfl
  rw [e, Array.getElem?_replicate, if_pos hj', ← rowL_zero, getElem!_pos _ j (by simpa using hj')]
  simp [eB]
theorem row_front (W V : World) (B N : Nat) (acc z : List UInt8) (cap : Nat) (hH : Holds eB W B 0 (rowL N [])) (hV : V = putRow eB W B 0 (rowL 0 (acc ++ z))) (hN : acc.length + z.length = N) (T : TypeId) (hT : Tryz.prog.underlying T = some (.slice 5)) :
    (convert T 9 (.slice (some ⟨B, 0, none⟩) acc.length cap)).run Tryz.prog V = .ok (.string (mkB acc)) V := by
  refine run_convert_bytes_back (P := Tryz.prog) V T 9 5 ⟨B, 0, none⟩ cap acc hT Tryz.underlying5 Tryz.underlying9 (fun t ht => ?_)
  have h2 := holds_putRow eB W B 0 (rowL N []) (rowL 0 (acc ++ z)) hH (by rw [rowL_size, rowL_size]; simp; omega)
  have h3 := (h2 (0 + t) (by rw [rowL_size]; simp; omega)).1
  rw [← hV, rowL_at _ _ _ (by simp; omega), Nat.zero_add, Nat.zero_add, List.getElem_append_left ht] at h3
  have ha : (⟨B, 0, none⟩ : Addr).add t = ⟨B, t, none⟩ := by
    unfold Addr.add; split
    · rename_i h; subst h; rfl
    · rw [Nat.zero_add]
  rw [ha]; exact h3
theorem pow_pos10 (k : Nat) : 0 < 10 ^ k := Nat.pow_pos (by omega)

theorem fix_inv (p q k : Int) (w : World) (hv : vld p q = false) :
    Calls Tryz.prog 84 #[.agg #[.int .i64 p, .int .i64 q], .int .i64 k] w fun e w' => e = .returned (.tuple #[.string (mkB (fixS p q k)), .int .i64 (fixE p q k)]) ∧ RowKit.Below w.heap.size w w' := by
  rw [show fixS p q k = [] by unfold fixS; rw [if_neg (by simp [hv])], show fixE p q k = 2 by unfold fixE; rw [if_neg (by simp [hv])]]
  go_enter Tryz.func84, Tryz.ntmps84
  go_wp2_with (go_at_call 103; refine (valid_any _ _ _).mono ?_; rintro e w1 ⟨rfl, hb1⟩; obtain ⟨hc1, hf1⟩ := bcell hb1; have hz := hb1.size; (try simp at hz); (try (have z1_0 : w.heap.size < w1.heap.size := (by omega))); (try (have z1_1 : w.heap.size + 1 < w1.heap.size := (by omega))); clear hz)
  go_ret2
  refine ⟨rfl, ?_⟩
  repeat (first | exact Below.refl _ _ | refine below_drewN ?_ _ | refine Below.drew ?_ | refine Below.setCell ?_ (by first | omega | (simp; done) | (simp; omega)) _ | refine Below.alloc ?_ (by first | omega | (simp; done) | (simp; omega)) _ | refine below_step (by assumption) (by first | omega | (simp; done) | (simp; omega)) ?_)
theorem fix_out (p q k : Int) (w : World) (hv : vld p q = true) (hk : k < 0 ∨ 12 < k) :
    Calls Tryz.prog 84 #[.agg #[.int .i64 p, .int .i64 q], .int .i64 k] w fun e w' => e = .returned (.tuple #[.string (mkB (fixS p q k)), .int .i64 (fixE p q k)]) ∧ RowKit.Below w.heap.size w w' := by
  rw [show fixS p q k = [] by unfold fixS; rw [if_neg (by omega)], show fixE p q k = 2 by unfold fixE; rw [if_neg (by omega)]]
  by_cases h0 : k < 0
  · go_enter Tryz.func84, Tryz.ntmps84
    go_wp2_with (go_at_call 103; refine (valid_any _ _ _).mono ?_; rintro e w1 ⟨rfl, hb1⟩; obtain ⟨hc1, hf1⟩ := bcell hb1; have hz := hb1.size; (try simp at hz); (try (have z1_0 : w.heap.size < w1.heap.size := (by omega))); (try (have z1_1 : w.heap.size + 1 < w1.heap.size := (by omega))); clear hz)
    go_ret2
    refine ⟨rfl, ?_⟩
    repeat (first | exact Below.refl _ _ | refine below_drewN ?_ _ | refine Below.drew ?_ | refine Below.setCell ?_ (by first | omega | (simp; done) | (simp; omega)) _ | refine Below.alloc ?_ (by first | omega | (simp; done) | (simp; omega)) _ | refine below_step (by assumption) (by first | omega | (simp; done) | (simp; omega)) ?_)
  · have h1 : 12 < k := by omega
    go_enter Tryz.func84, Tryz.ntmps84
    go_wp2_with (go_at_call 103; refine (valid_any _ _ _).mono ?_; rintro e w1 ⟨rfl, hb1⟩; obtain ⟨hc1, hf1⟩ := bcell hb1; have hz := hb1.size; (try simp at hz); (try (have z1_0 : w.heap.size < w1.heap.size := (by omega))); (try (have z1_1 : w.heap.size + 1 < w1.heap.size := (by omega))); clear hz)
    go_ret2
    refine ⟨rfl, ?_⟩
    repeat (first | exact Below.refl _ _ | refine below_drewN ?_ _ | refine Below.drew ?_ | refine Below.setCell ?_ (by first | omega | (simp; done) | (simp; omega)) _ | refine Below.alloc ?_ (by first | omega | (simp; done) | (simp; omega)) _ | refine below_step (by assumption) (by first | omega | (simp; done) | (simp; omega)) ?_)

set_option maxHeartbeats 4000000 in
set_option maxRecDepth 100000 in
theorem fix_p0 (p q : Int) (k : Nat) (w : World) (he : Env w) (hv : vld p q = true) (hk : k ≤ 12) (hsg : ¬ (p < 0 ∧ fixT p.natAbs q.toNat k ≠ 0)) (hk0 : k = 0) :
    Calls Tryz.prog 84 #[.agg #[.int .i64 p, .int .i64 q], .int .i64 k] w fun e w' => e = .returned (.tuple #[.string (mkB (fixL p q.toNat k)), .int .i64 0]) ∧ RowKit.Below w.heap.size w w' := by
  obtain ⟨g1, g2, g3, g4, _⟩ := vld_iff.1 hv
  have hTz := fixT_zero p.natAbs q.toNat k
  have R1 : Hid (∀ w, Calls Tryz.prog 107 #[.agg #[.int .i64 p, .int .i64 q], .int .i64 k] w fun e w' => e = .returned (.tuple #[.int .i64 ((fixT p.natAbs q.toNat k / 10 ^ k : Nat) : Int), .int .i64 ((fixT p.natAbs q.toNat k % 10 ^ k : Nat) : Int)]) ∧ RowKit.Below w.heap.size w w') := Lib.hid fun w => rounded_any p q k w hv hk
  have hfl : fixL p q.toNat k = [] ++ (Lib.decDigits (fixT p.natAbs q.toNat k / 10 ^ k) ++ []) := by unfold fixL; rw [if_neg hsg, if_pos hk0]
  have hWl : fixT p.natAbs q.toNat k / 10 ^ k ≤ 2147483648 := by
    have hqn : 0 < q.toNat := by omega
    rw [(fixT_div p.natAbs q.toNat k hqn).1]
    have h1 := Nat.div_le_self p.natAbs q.toNat
    have h2 := fixN_lt (p.natAbs % q.toNat) q.toNat k (Nat.mod_lt _ hqn)
    have h3 := up_01 (fixN p.natAbs q.toNat k) (fixR p.natAbs q.toNat k) q.toNat
    have h4 : (fixN (p.natAbs % q.toNat) q.toNat k + up (fixN p.natAbs q.toNat k) (fixR p.natAbs q.toNat k) q.toNat) / 10 ^ k ≤ 1 := by
      have hpp := pow_pos10 k
      generalize up (fixN p.natAbs q.toNat k) (fixR p.natAbs q.toNat k) q.toNat = u at h3 ⊢
      generalize fixN (p.natAbs % q.toNat) q.toNat k = m at h2 ⊢
      have : (m + u) / 10 ^ k ≤ 10 ^ k / 10 ^ k := Nat.div_le_div_right (by omega)
      rw [Nat.div_self hpp] at this; exact this
    omega
  have hFl : fixT p.natAbs q.toNat k % 10 ^ k < 10 ^ k := Nat.mod_lt _ (pow_pos10 k)
  have hp12 := pow12 hk
  generalize fixT p.natAbs q.toNat k / 10 ^ k = A at *
  generalize fixT p.natAbs q.toNat k % 10 ^ k = F at *
  have I1 : Hid (∀ w, Env w → Calls Tryz.prog 106 #[.int .i64 (A : Int)] w fun e w' => e = .returned (.string (mkB (Lib.decDigits A))) ∧ RowKit.Below w.heap.size w w') := Lib.hid fun w he => by
    have := itoa_any (A : Int) w (by omega) (by omega) he
    rw [Lib.itoa_nonneg] at this; exact this
  have hsa : (mkB (Lib.decDigits A)).size ≤ 30 := by
    rw [mkB_size]; have := Lib.itoa_length_le (A : Int) (by omega) (by omega); rw [Lib.itoa_nonneg] at this; omega
  have hAF : 0 ≤ p ∨ (A = 0 ∧ F = 0) := by
    by_cases h : 0 ≤ p
    · exact .inl h
    · right; apply hTz.1; apply Decidable.byContradiction; intro hh; exact hsg ⟨by omega, hh⟩
  clear hsg hTz
  have HFL := Lib.hid hfl
  clear hfl
  have HE := Lib.hid (he.alloc (.cells #[.int .i64 p, .int .i64 q] 44))
  have HR : Hid (Ending.returned (.tuple #[.string (mkB (Lib.decDigits A)), .int .i64 0]) = .returned (.tuple #[.string (mkB (fixL p q.toNat k)), .int .i64 0])) := Lib.hid (by
    rw [HFL.out]; simp)
  have hkb : ((k : Int) == 0) = true := by rw [beq_iff_eq]; omega
  clear hk0
  generalize hsaE : mkB (Lib.decDigits A) = sa at *
  have HSA := Lib.hid hsaE
  clear hsaE
  by_cases hp : 0 ≤ p
  · clear hAF
    go_enter Tryz.func84, Tryz.ntmps84
    go_wp2_with (first | (go_at_call 103; refine (valid_any _ _ _).mono ?_; rintro e w1 ⟨rfl, hb1⟩; have HE1 := Lib.hid (HE.out.on hb1); obtain ⟨hc1, hf1⟩ := bcell hb1; have hz := hb1.size; (try simp at hz); (try (have z1_0 : w.heap.size < w1.heap.size := (by omega))); (try (have z1_1 : w.heap.size + 1 < w1.heap.size := (by omega))); clear hz) | (go_at_call 107; (with_reducible refine (R1.out _).mono ?_); rintro e w2 ⟨rfl, hb2⟩; have HE2 := Lib.hid (HE1.out.on hb2); obtain ⟨hc2, hf2⟩ := bcell hb2; have hz := hb2.size; (try simp at hz); (try (have z2_0 : w.heap.size < w2.heap.size := (by omega))); (try (have z2_1 : w.heap.size + 1 < w2.heap.size := (by omega))); (try (have y2_1 : w1.heap.size < w2.heap.size := (by omega))); clear hz) | (go_at_call 106; (with_reducible refine (I1.out _ HE2.out).mono ?_); rintro e w3 ⟨rfl, hb3⟩; obtain ⟨hc3, hf3⟩ := bcell hb3; have hz := hb3.size; (try simp at hz); (try (have z3_0 : w.heap.size < w3.heap.size := (by omega))); (try (have z3_1 : w.heap.size + 1 < w3.heap.size := (by omega))); (try (have y3_1 : w1.heap.size < w3.heap.size := (by omega))); (try (have y3_2 : w2.heap.size < w3.heap.size := (by omega))); clear hz))
    go_ret2
    refine ⟨HR.out, ?_⟩
    repeat (first | exact Below.refl _ _ | refine below_drewN ?_ _ | refine Below.drew ?_ | refine Below.setCell ?_ (by first | omega | (simp; done) | (simp; omega)) _ | refine Below.alloc ?_ (by first | omega | (simp; done) | (simp; omega)) _ | refine below_step (by assumption) (by first | omega | (simp; done) | (simp; omega)) ?_)
  · have hAF2 : A = 0 ∧ F = 0 := by rcases hAF with h | h <;> omega
    have hp2 : p < 0 := by omega
    have hAb : ((A : Int) != 0) = false := by rw [bne_eq_false_iff_eq]; omega
    have hFb : ((F : Int) != 0) = false := by rw [bne_eq_false_iff_eq]; omega
    clear hAF hAF2
    go_enter Tryz.func84, Tryz.ntmps84
    go_wp2_with (first | (go_at_call 103; refine (valid_any _ _ _).mono ?_; rintro e w1 ⟨rfl, hb1⟩; have HE1 := Lib.hid (HE.out.on hb1); obtain ⟨hc1, hf1⟩ := bcell hb1; have hz := hb1.size; (try simp at hz); (try (have z1_0 : w.heap.size < w1.heap.size := (by omega))); (try (have z1_1 : w.heap.size + 1 < w1.heap.size := (by omega))); clear hz) | (go_at_call 107; (with_reducible refine (R1.out _).mono ?_); rintro e w2 ⟨rfl, hb2⟩; have HE2 := Lib.hid (HE1.out.on hb2); obtain ⟨hc2, hf2⟩ := bcell hb2; have hz := hb2.size; (try simp at hz); (try (have z2_0 : w.heap.size < w2.heap.size := (by omega))); (try (have z2_1 : w.heap.size + 1 < w2.heap.size := (by omega))); (try (have y2_1 : w1.heap.size < w2.heap.size := (by omega))); clear hz) | (go_at_call 106; (with_reducible refine (I1.out _ HE2.out).mono ?_); rintro e w3 ⟨rfl, hb3⟩; obtain ⟨hc3, hf3⟩ := bcell hb3; have hz := hb3.size; (try simp at hz); (try (have z3_0 : w.heap.size < w3.heap.size := (by omega))); (try (have z3_1 : w.heap.size + 1 < w3.heap.size := (by omega))); (try (have y3_1 : w1.heap.size < w3.heap.size := (by omega))); (try (have y3_2 : w2.heap.size < w3.heap.size := (by omega))); clear hz))
    go_ret2
    refine ⟨HR.out, ?_⟩
    repeat (first | exact Below.refl _ _ | refine below_drewN ?_ _ | refine Below.drew ?_ | refine Below.setCell ?_ (by first | omega | (simp; done) | (simp; omega)) _ | refine Below.alloc ?_ (by first | omega | (simp; done) | (simp; omega)) _ | refine below_step (by assumption) (by first | omega | (simp; done) | (simp; omega)) ?_)

set_option maxHeartbeats 4000000 in
set_option maxRecDepth 100000 in
theorem fix_n0 (p q : Int) (k : Nat) (w : World) (he : Env w) (hv : vld p q = true) (hk : k ≤ 12) (hsg : p < 0 ∧ fixT p.natAbs q.toNat k ≠ 0) (hk0 : k = 0) :
    Calls Tryz.prog 84 #[.agg #[.int .i64 p, .int .i64 q], .int .i64 k] w fun e w' => e = .returned (.tuple #[.string (mkB (fixL p q.toNat k)), .int .i64 0]) ∧ RowKit.Below w.heap.size w w' := by
  obtain ⟨g1, g2, g3, g4, _⟩ := vld_iff.1 hv
  have hTz := fixT_zero p.natAbs q.toNat k
  have R1 : Hid (∀ w, Calls Tryz.prog 107 #[.agg #[.int .i64 p, .int .i64 q], .int .i64 k] w fun e w' => e = .returned (.tuple #[.int .i64 ((fixT p.natAbs q.toNat k / 10 ^ k : Nat) : Int), .int .i64 ((fixT p.natAbs q.toNat k % 10 ^ k : Nat) : Int)]) ∧ RowKit.Below w.heap.size w w') := Lib.hid fun w => rounded_any p q k w hv hk
  have hfl : fixL p q.toNat k = [45] ++ (Lib.decDigits (fixT p.natAbs q.toNat k / 10 ^ k) ++ []) := by unfold fixL; rw [if_pos hsg, if_pos hk0]
  have hWl : fixT p.natAbs q.toNat k / 10 ^ k ≤ 2147483648 := by
    have hqn : 0 < q.toNat := by omega
    rw [(fixT_div p.natAbs q.toNat k hqn).1]
    have h1 := Nat.div_le_self p.natAbs q.toNat
    have h2 := fixN_lt (p.natAbs % q.toNat) q.toNat k (Nat.mod_lt _ hqn)
    have h3 := up_01 (fixN p.natAbs q.toNat k) (fixR p.natAbs q.toNat k) q.toNat
    have h4 : (fixN (p.natAbs % q.toNat) q.toNat k + up (fixN p.natAbs q.toNat k) (fixR p.natAbs q.toNat k) q.toNat) / 10 ^ k ≤ 1 := by
      have hpp := pow_pos10 k
      generalize up (fixN p.natAbs q.toNat k) (fixR p.natAbs q.toNat k) q.toNat = u at h3 ⊢
      generalize fixN (p.natAbs % q.toNat) q.toNat k = m at h2 ⊢
      have : (m + u) / 10 ^ k ≤ 10 ^ k / 10 ^ k := Nat.div_le_div_right (by omega)
      rw [Nat.div_self hpp] at this; exact this
    omega
  have hFl : fixT p.natAbs q.toNat k % 10 ^ k < 10 ^ k := Nat.mod_lt _ (pow_pos10 k)
  have hp12 := pow12 hk
  generalize fixT p.natAbs q.toNat k / 10 ^ k = A at *
  generalize fixT p.natAbs q.toNat k % 10 ^ k = F at *
  have I1 : Hid (∀ w, Env w → Calls Tryz.prog 106 #[.int .i64 (A : Int)] w fun e w' => e = .returned (.string (mkB (Lib.decDigits A))) ∧ RowKit.Below w.heap.size w w') := Lib.hid fun w he => by
    have := itoa_any (A : Int) w (by omega) (by omega) he
    rw [Lib.itoa_nonneg] at this; exact this
  have hsa : (mkB (Lib.decDigits A)).size ≤ 30 := by
    rw [mkB_size]; have := Lib.itoa_length_le (A : Int) (by omega) (by omega); rw [Lib.itoa_nonneg] at this; omega
  have hp : p < 0 := hsg.1
  have hAF : ¬ (A = 0 ∧ F = 0) := fun h => hsg.2 (hTz.2 h)
  clear hsg hTz
  have HFL := Lib.hid hfl
  clear hfl
  have HE := Lib.hid (he.alloc (.cells #[.int .i64 p, .int .i64 q] 44))
  have HR : Hid (Ending.returned (.tuple #[.string (⟨#[45]⟩ ++ mkB (Lib.decDigits A)), .int .i64 0]) = .returned (.tuple #[.string (mkB (fixL p q.toNat k)), .int .i64 0])) := Lib.hid (by
    rw [HFL.out]; show Ending.returned (.tuple #[.string (mkB [45] ++ mkB (Lib.decDigits A)), .int .i64 0]) = _; rw [mkB_app]; simp)
  have a1 : ∀ W, (Op.stringOp .add ⟨#[45]⟩ (mkB (Lib.decDigits A))).run Tryz.prog W = .ok (.string (⟨#[45]⟩ ++ mkB (Lib.decDigits A))) W := fun W => run_string_add_sum (w := W) _ _ (by show 1 + _ ≤ _; omega)
  have hkb : ((k : Int) == 0) = true := by rw [beq_iff_eq]; omega
  clear hk0
  generalize hsaE : mkB (Lib.decDigits A) = sa at *
  have HSA := Lib.hid hsaE
  clear hsaE
  by_cases hA0 : A = 0
  · have hAb : ((A : Int) != 0) = false := by rw [bne_eq_false_iff_eq]; omega
    have hFb : ((F : Int) != 0) = true := by rw [bne_iff_ne]; omega
    clear hAF hA0
    go_enter Tryz.func84, Tryz.ntmps84
    go_wp2_with (first | (go_at_call 103; refine (valid_any _ _ _).mono ?_; rintro e w1 ⟨rfl, hb1⟩; have HE1 := Lib.hid (HE.out.on hb1); obtain ⟨hc1, hf1⟩ := bcell hb1; have hz := hb1.size; (try simp at hz); (try (have z1_0 : w.heap.size < w1.heap.size := (by omega))); (try (have z1_1 : w.heap.size + 1 < w1.heap.size := (by omega))); clear hz) | (go_at_call 107; (with_reducible refine (R1.out _).mono ?_); rintro e w2 ⟨rfl, hb2⟩; have HE2 := Lib.hid (HE1.out.on hb2); obtain ⟨hc2, hf2⟩ := bcell hb2; have hz := hb2.size; (try simp at hz); (try (have z2_0 : w.heap.size < w2.heap.size := (by omega))); (try (have z2_1 : w.heap.size + 1 < w2.heap.size := (by omega))); (try (have y2_1 : w1.heap.size < w2.heap.size := (by omega))); clear hz) | (go_at_call 106; (with_reducible refine (I1.out _ HE2.out).mono ?_); rintro e w3 ⟨rfl, hb3⟩; obtain ⟨hc3, hf3⟩ := bcell hb3; have hz := hb3.size; (try simp at hz); (try (have z3_0 : w.heap.size < w3.heap.size := (by omega))); (try (have z3_1 : w.heap.size + 1 < w3.heap.size := (by omega))); (try (have y3_1 : w1.heap.size < w3.heap.size := (by omega))); (try (have y3_2 : w2.heap.size < w3.heap.size := (by omega))); clear hz))
    go_ret2
    refine ⟨HR.out, ?_⟩
    repeat (first | exact Below.refl _ _ | refine below_drewN ?_ _ | refine Below.drew ?_ | refine Below.setCell ?_ (by first | omega | (simp; done) | (simp; omega)) _ | refine Below.alloc ?_ (by first | omega | (simp; done) | (simp; omega)) _ | refine below_step (by assumption) (by first | omega | (simp; done) | (simp; omega)) ?_)
  · have hAb : ((A : Int) != 0) = true := by rw [bne_iff_ne]; omega
    clear hAF hA0
    go_enter Tryz.func84, Tryz.ntmps84
    go_wp2_with (first | (go_at_call 103; refine (valid_any _ _ _).mono ?_; rintro e w1 ⟨rfl, hb1⟩; have HE1 := Lib.hid (HE.out.on hb1); obtain ⟨hc1, hf1⟩ := bcell hb1; have hz := hb1.size; (try simp at hz); (try (have z1_0 : w.heap.size < w1.heap.size := (by omega))); (try (have z1_1 : w.heap.size + 1 < w1.heap.size := (by omega))); clear hz) | (go_at_call 107; (with_reducible refine (R1.out _).mono ?_); rintro e w2 ⟨rfl, hb2⟩; have HE2 := Lib.hid (HE1.out.on hb2); obtain ⟨hc2, hf2⟩ := bcell hb2; have hz := hb2.size; (try simp at hz); (try (have z2_0 : w.heap.size < w2.heap.size := (by omega))); (try (have z2_1 : w.heap.size + 1 < w2.heap.size := (by omega))); (try (have y2_1 : w1.heap.size < w2.heap.size := (by omega))); clear hz) | (go_at_call 106; (with_reducible refine (I1.out _ HE2.out).mono ?_); rintro e w3 ⟨rfl, hb3⟩; obtain ⟨hc3, hf3⟩ := bcell hb3; have hz := hb3.size; (try simp at hz); (try (have z3_0 : w.heap.size < w3.heap.size := (by omega))); (try (have z3_1 : w.heap.size + 1 < w3.heap.size := (by omega))); (try (have y3_1 : w1.heap.size < w3.heap.size := (by omega))); (try (have y3_2 : w2.heap.size < w3.heap.size := (by omega))); clear hz))
    go_ret2
    refine ⟨HR.out, ?_⟩
    repeat (first | exact Below.refl _ _ | refine below_drewN ?_ _ | refine Below.drew ?_ | refine Below.setCell ?_ (by first | omega | (simp; done) | (simp; omega)) _ | refine Below.alloc ?_ (by first | omega | (simp; done) | (simp; omega)) _ | refine below_step (by assumption) (by first | omega | (simp; done) | (simp; omega)) ?_)

set_option maxHeartbeats 4000000 in
set_option maxRecDepth 100000 in
theorem fix_p1 (p q : Int) (k : Nat) (w : World) (he : Env w) (hv : vld p q = true) (hk : k ≤ 12) (hsg : ¬ (p < 0 ∧ fixT p.natAbs q.toNat k ≠ 0)) (hk0 : 0 < k) :
    Calls Tryz.prog 84 #[.agg #[.int .i64 p, .int .i64 q], .int .i64 k] w fun e w' => e = .returned (.tuple #[.string (mkB (fixL p q.toNat k)), .int .i64 0]) ∧ RowKit.Below w.heap.size w w' := by
  obtain ⟨g1, g2, g3, g4, _⟩ := vld_iff.1 hv
  have hTz := fixT_zero p.natAbs q.toNat k
  have R1 : Hid (∀ w, Calls Tryz.prog 107 #[.agg #[.int .i64 p, .int .i64 q], .int .i64 k] w fun e w' => e = .returned (.tuple #[.int .i64 ((fixT p.natAbs q.toNat k / 10 ^ k : Nat) : Int), .int .i64 ((fixT p.natAbs q.toNat k % 10 ^ k : Nat) : Int)]) ∧ RowKit.Below w.heap.size w w') := Lib.hid fun w => rounded_any p q k w hv hk
  have hfl : fixL p q.toNat k = [] ++ (Lib.decDigits (fixT p.natAbs q.toNat k / 10 ^ k) ++ 46 :: pad k (fixT p.natAbs q.toNat k % 10 ^ k)) := by unfold fixL; rw [if_neg hsg, if_neg (by omega)]
  have hWl : fixT p.natAbs q.toNat k / 10 ^ k ≤ 2147483648 := by
    have hqn : 0 < q.toNat := by omega
    rw [(fixT_div p.natAbs q.toNat k hqn).1]
    have h1 := Nat.div_le_self p.natAbs q.toNat
    have h2 := fixN_lt (p.natAbs % q.toNat) q.toNat k (Nat.mod_lt _ hqn)
    have h3 := up_01 (fixN p.natAbs q.toNat k) (fixR p.natAbs q.toNat k) q.toNat
    have h4 : (fixN (p.natAbs % q.toNat) q.toNat k + up (fixN p.natAbs q.toNat k) (fixR p.natAbs q.toNat k) q.toNat) / 10 ^ k ≤ 1 := by
      have hpp := pow_pos10 k
      generalize up (fixN p.natAbs q.toNat k) (fixR p.natAbs q.toNat k) q.toNat = u at h3 ⊢
      generalize fixN (p.natAbs % q.toNat) q.toNat k = m at h2 ⊢
      have : (m + u) / 10 ^ k ≤ 10 ^ k / 10 ^ k := Nat.div_le_div_right (by omega)
      rw [Nat.div_self hpp] at this; exact this
    omega
  have hFl : fixT p.natAbs q.toNat k % 10 ^ k < 10 ^ k := Nat.mod_lt _ (pow_pos10 k)
  have hp12 := pow12 hk
  generalize fixT p.natAbs q.toNat k / 10 ^ k = A at *
  generalize fixT p.natAbs q.toNat k % 10 ^ k = F at *
  have I1 : Hid (∀ w, Env w → Calls Tryz.prog 106 #[.int .i64 (A : Int)] w fun e w' => e = .returned (.string (mkB (Lib.decDigits A))) ∧ RowKit.Below w.heap.size w w') := Lib.hid fun w he => by
    have := itoa_any (A : Int) w (by omega) (by omega) he
    rw [Lib.itoa_nonneg] at this; exact this
  have hsa : (mkB (Lib.decDigits A)).size ≤ 30 := by
    rw [mkB_size]; have := Lib.itoa_length_le (A : Int) (by omega) (by omega); rw [Lib.itoa_nonneg] at this; omega
  have hAF : 0 ≤ p ∨ (A = 0 ∧ F = 0) := by
    by_cases h : 0 ≤ p
    · exact .inl h
    · right; apply hTz.1; apply Decidable.byContradiction; intro hh; exact hsg ⟨by omega, hh⟩
  clear hsg hTz
  have HFL := Lib.hid hfl
  clear hfl
  have HE := Lib.hid (he.alloc (.cells #[.int .i64 p, .int .i64 q] 44))
  have hkb : ((k : Int) == 0) = false := by rw [beq_eq_false_iff_ne]; omega
  generalize hsaE : mkB (Lib.decDigits A) = sa at *
  have HSA := Lib.hid hsaE
  clear hsaE
  by_cases hp : 0 ≤ p
  · clear hAF
    go_enter Tryz.func84, Tryz.ntmps84
    go_wp2_with (first | (go_at_call 103; refine (valid_any _ _ _).mono ?_; rintro e w1 ⟨rfl, hb1⟩; have HE1 := Lib.hid (HE.out.on hb1); obtain ⟨hc1, hf1⟩ := bcell hb1; have hz := hb1.size; (try simp at hz); (try (have z1_0 : w.heap.size < w1.heap.size := (by omega))); (try (have z1_1 : w.heap.size + 1 < w1.heap.size := (by omega))); clear hz) | (go_at_call 107; (with_reducible refine (R1.out _).mono ?_); rintro e w2 ⟨rfl, hb2⟩; have HE2 := Lib.hid (HE1.out.on hb2); obtain ⟨hc2, hf2⟩ := bcell hb2; have hz := hb2.size; (try simp at hz); (try (have z2_0 : w.heap.size < w2.heap.size := (by omega))); (try (have z2_1 : w.heap.size + 1 < w2.heap.size := (by omega))); (try (have y2_1 : w1.heap.size < w2.heap.size := (by omega))); clear hz) | (go_at_call 106; (with_reducible refine (I1.out _ HE2.out).mono ?_); rintro e w3 ⟨rfl, hb3⟩; obtain ⟨hc3, hf3⟩ := bcell hb3; have hz := hb3.size; (try simp at hz); (try (have z3_0 : w.heap.size < w3.heap.size := (by omega))); (try (have z3_1 : w.heap.size + 1 < w3.heap.size := (by omega))); (try (have y3_1 : w1.heap.size < w3.heap.size := (by omega))); (try (have y3_2 : w2.heap.size < w3.heap.size := (by omega))); clear hz))
    have kB : RowKit.Below w.heap.size w w3 := by
      repeat (first | exact Below.refl _ _ | refine below_drewN ?_ _ | refine Below.drew ?_ | refine Below.setCell ?_ (by first | omega | (simp; done) | (simp; omega)) _ | refine Below.alloc ?_ (by first | omega | (simp; done) | (simp; omega)) _ | refine below_step (by assumption) (by first | omega | (simp; done) | (simp; omega)) ?_)
    have hH := Lib.hid (holds_12 w3)
    have HK := Lib.hid kB
    clear kB
    obtain ⟨W1, hW1⟩ : ∃ W1, w3.alloc zero12 = W1 := ⟨_, rfl⟩
    have hBel : RowKit.Below w3.heap.size w3 W1 := by rw [← hW1]; exact (RowKit.Below.refl _ _).alloc (Nat.le_refl _) _
    rw [hW1] at hH
    have HW := Lib.hid hW1
    have HBel := Lib.hid hBel
    clear hW1 hBel
    go_loopw [7, 10, 47] (fun vp _ vi wr => ∃ (i P : Nat) (acc : List UInt8), i ≤ k ∧ acc.length = i ∧ vp = .int .i64 P ∧ vi = .int .i64 i ∧ P ≤ 1000000000000 ∧ Hid (pad k F = pad (k - i) P ++ acc) ∧ Hid (wr = putRow eB W1 w3.heap.size 0 (rowL (k - i) (acc ++ List.replicate (12 - k) 0)))) (fun _ _ vi _ => k - (intOf vi).toNat)
    case atStart => exact ⟨0, F, [], by omega, rfl, by rfl, rfl, by omega, Lib.hid (by simp), Lib.hid (by
      have : rowL (k - 0) ([] ++ List.replicate (12 - k) 0) = rowL 12 [] := by simp only [rowL, List.nil_append, List.append_nil, Nat.sub_zero]; rw [List.replicate_append_replicate, show k + (12 - k) = 12 by omega]
      rw [this, putRow_self eB W1 w3.heap.size 0 (rowL 12 []) hH.out]; exact HW.out)⟩
    case round =>
      obtain ⟨i, P, acc, him, hal, rfl, rfl, hP, HP, HWr⟩ := hrel
      rename World => W0
      by_cases hik : i < k
      · have HE1 := Lib.hid (show k - i = (k - 1 - i) + 1 by omega)
        have HE2 := Lib.hid (show k - (i + 1) = k - 1 - i by omega)
        have HWr2 : Hid (W0 = putRow eB W1 w3.heap.size 0 (rowL ((k - 1 - i) + 1) (acc ++ List.replicate (12 - k) 0))) := Lib.hid (by rw [← HE1.out]; exact HWr.out)
        have hh := holds_putRow eB W1 w3.heap.size 0 (rowL 12 []) (rowL ((k - 1 - i) + 1) (acc ++ List.replicate (12 - k) 0)) hH.out (by rw [rowL_size, rowL_size]; simp; omega)
        rw [← HWr2.out] at hh
        have hj1 := hh (k - 1 - i) (by rw [rowL_size]; omega)
        rw [Nat.zero_add] at hj1
        obtain ⟨hcj, hfj⟩ := hj1
        unfold eB at hcj
        generalize (((rowL ((k - 1 - i) + 1) (acc ++ List.replicate (12 - k) 0))[k - 1 - i]!).toNat : Int) = G at hcj
        clear hh
        have hmn : P % 10 < 36 := by omega
        have HV : Hid (W0.setCell ⟨w3.heap.size, k - 1 - i, none⟩ (.int .u8 ((dc (P % 10)).toNat : Int)) = putRow eB W1 w3.heap.size 0 (rowL (k - 1 - i) ((dc (P % 10) :: acc) ++ List.replicate (12 - k) 0))) := Lib.hid (by
          have h := putRow_set eB W1 w3.heap.size 0 (rowL ((k - 1 - i) + 1) (acc ++ List.replicate (12 - k) 0)) (k - 1 - i) (dc (P % 10)) (by rw [rowL_size]; omega)
          rw [rowL_set, Nat.zero_add, ← HWr2.out] at h
          exact h)
        have HN : Hid (pad k F = pad (k - 1 - i) (P / 10) ++ (dc (P % 10) :: acc)) := Lib.hid (by rw [HP.out, HE1.out]; show (pad (k - 1 - i) (P / 10) ++ [dc (P % 10)]) ++ acc = _; simp)
        clear HP
        go_wp2
        go_roundw
        case rel =>
          refine ⟨i + 1, P / 10, dc (P % 10) :: acc, by omega, by simp [hal], by push_cast; rfl, by go_num, by omega, Lib.hid (by rw [HE2.out]; exact HN.out), Lib.hid ?_⟩
          rw [dig36 _ hmn, HE2.out]; exact HV.out
        case measure => simp [intOf]; omega
      · obtain rfl : i = k := by omega
        have HWr2 : Hid (W0 = putRow eB W1 w3.heap.size 0 (rowL 0 (acc ++ List.replicate (12 - i) 0))) := Lib.hid (by have := HWr.out; rw [Nat.sub_self] at this; exact this)
        have hpa : pad i F = acc := by have := HP.out; rw [Nat.sub_self] at this; rw [this]; rfl
        have hsl := slice12 w3.heap.size i hk (by omega)
        have hcv := row_front W1 W0 w3.heap.size 12 acc (List.replicate (12 - i) 0) 12 hH.out HWr2.out (by simp; omega) 56 Tryz.underlying56
        rw [hal] at hcv
        have hms : (mkB acc).size = i := by rw [mkB_size, hal]
        have a2 : ∀ W, (Op.stringOp .add sa ⟨#[46]⟩).run Tryz.prog W = .ok (.string (sa ++ ⟨#[46]⟩)) W := fun W => run_string_add_sum (w := W) _ _ (by show sa.size + 1 ≤ _; omega)
        have a3 : ∀ W, (Op.stringOp .add (sa ++ ⟨#[46]⟩) (mkB acc)).run Tryz.prog W = .ok (.string (sa ++ ⟨#[46]⟩ ++ mkB acc)) W := fun W => run_string_add_sum (w := W) _ _ (by rw [hms, ByteArray.size_append]; show sa.size + 1 + _ ≤ _; omega)
        have HR : Hid (Ending.returned (.tuple #[.string (sa ++ ⟨#[46]⟩ ++ mkB acc), .int .i64 0]) = .returned (.tuple #[.string (mkB (fixL p q.toNat i)), .int .i64 0])) := Lib.hid (by
          rw [HFL.out, hpa, ← HSA.out]
          show Ending.returned (.tuple #[.string (mkB (Lib.decDigits A) ++ mkB [46] ++ mkB acc), .int .i64 0]) = _
          rw [mkB_app, mkB_app]; simp)
        have HBE : Hid (RowKit.Below w.heap.size w W0) := Lib.hid (by
          rw [HWr.out]
          have h1 := HBel.out
          have h2 := HK.out
          exact below_putRow _ _ _ _ (h2.trans (h1.mono h2.size)) h2.size)
        clear hpa hms HWr HWr2 HP
        go_wp2
        go_ret2
        exact ⟨HR.out, HBE.out⟩
  · have hAF2 : A = 0 ∧ F = 0 := by rcases hAF with h | h <;> omega
    have hp2 : p < 0 := by omega
    have hAb : ((A : Int) != 0) = false := by rw [bne_eq_false_iff_eq]; omega
    have hFb : ((F : Int) != 0) = false := by rw [bne_eq_false_iff_eq]; omega
    clear hAF hAF2
    go_enter Tryz.func84, Tryz.ntmps84
    go_wp2_with (first | (go_at_call 103; refine (valid_any _ _ _).mono ?_; rintro e w1 ⟨rfl, hb1⟩; have HE1 := Lib.hid (HE.out.on hb1); obtain ⟨hc1, hf1⟩ := bcell hb1; have hz := hb1.size; (try simp at hz); (try (have z1_0 : w.heap.size < w1.heap.size := (by omega))); (try (have z1_1 : w.heap.size + 1 < w1.heap.size := (by omega))); clear hz) | (go_at_call 107; (with_reducible refine (R1.out _).mono ?_); rintro e w2 ⟨rfl, hb2⟩; have HE2 := Lib.hid (HE1.out.on hb2); obtain ⟨hc2, hf2⟩ := bcell hb2; have hz := hb2.size; (try simp at hz); (try (have z2_0 : w.heap.size < w2.heap.size := (by omega))); (try (have z2_1 : w.heap.size + 1 < w2.heap.size := (by omega))); (try (have y2_1 : w1.heap.size < w2.heap.size := (by omega))); clear hz) | (go_at_call 106; (with_reducible refine (I1.out _ HE2.out).mono ?_); rintro e w3 ⟨rfl, hb3⟩; obtain ⟨hc3, hf3⟩ := bcell hb3; have hz := hb3.size; (try simp at hz); (try (have z3_0 : w.heap.size < w3.heap.size := (by omega))); (try (have z3_1 : w.heap.size + 1 < w3.heap.size := (by omega))); (try (have y3_1 : w1.heap.size < w3.heap.size := (by omega))); (try (have y3_2 : w2.heap.size < w3.heap.size := (by omega))); clear hz))
    have kB : RowKit.Below w.heap.size w w3 := by
      repeat (first | exact Below.refl _ _ | refine below_drewN ?_ _ | refine Below.drew ?_ | refine Below.setCell ?_ (by first | omega | (simp; done) | (simp; omega)) _ | refine Below.alloc ?_ (by first | omega | (simp; done) | (simp; omega)) _ | refine below_step (by assumption) (by first | omega | (simp; done) | (simp; omega)) ?_)
    have hH := Lib.hid (holds_12 w3)
    have HK := Lib.hid kB
    clear kB
    obtain ⟨W1, hW1⟩ : ∃ W1, w3.alloc zero12 = W1 := ⟨_, rfl⟩
    have hBel : RowKit.Below w3.heap.size w3 W1 := by rw [← hW1]; exact (RowKit.Below.refl _ _).alloc (Nat.le_refl _) _
    rw [hW1] at hH
    have HW := Lib.hid hW1
    have HBel := Lib.hid hBel
    clear hW1 hBel
    go_loopw [7, 10, 47] (fun vp _ vi wr => ∃ (i P : Nat) (acc : List UInt8), i ≤ k ∧ acc.length = i ∧ vp = .int .i64 P ∧ vi = .int .i64 i ∧ P ≤ 1000000000000 ∧ Hid (pad k F = pad (k - i) P ++ acc) ∧ Hid (wr = putRow eB W1 w3.heap.size 0 (rowL (k - i) (acc ++ List.replicate (12 - k) 0)))) (fun _ _ vi _ => k - (intOf vi).toNat)
    case atStart => exact ⟨0, F, [], by omega, rfl, by rfl, rfl, by omega, Lib.hid (by simp), Lib.hid (by
      have : rowL (k - 0) ([] ++ List.replicate (12 - k) 0) = rowL 12 [] := by simp only [rowL, List.nil_append, List.append_nil, Nat.sub_zero]; rw [List.replicate_append_replicate, show k + (12 - k) = 12 by omega]
      rw [this, putRow_self eB W1 w3.heap.size 0 (rowL 12 []) hH.out]; exact HW.out)⟩
    case round =>
      obtain ⟨i, P, acc, him, hal, rfl, rfl, hP, HP, HWr⟩ := hrel
      rename World => W0
      by_cases hik : i < k
      · have HE1 := Lib.hid (show k - i = (k - 1 - i) + 1 by omega)
        have HE2 := Lib.hid (show k - (i + 1) = k - 1 - i by omega)
        have HWr2 : Hid (W0 = putRow eB W1 w3.heap.size 0 (rowL ((k - 1 - i) + 1) (acc ++ List.replicate (12 - k) 0))) := Lib.hid (by rw [← HE1.out]; exact HWr.out)
        have hh := holds_putRow eB W1 w3.heap.size 0 (rowL 12 []) (rowL ((k - 1 - i) + 1) (acc ++ List.replicate (12 - k) 0)) hH.out (by rw [rowL_size, rowL_size]; simp; omega)
        rw [← HWr2.out] at hh
        have hj1 := hh (k - 1 - i) (by rw [rowL_size]; omega)
        rw [Nat.zero_add] at hj1
        obtain ⟨hcj, hfj⟩ := hj1
        unfold eB at hcj
        generalize (((rowL ((k - 1 - i) + 1) (acc ++ List.replicate (12 - k) 0))[k - 1 - i]!).toNat : Int) = G at hcj
        clear hh
        have hmn : P % 10 < 36 := by omega
        have HV : Hid (W0.setCell ⟨w3.heap.size, k - 1 - i, none⟩ (.int .u8 ((dc (P % 10)).toNat : Int)) = putRow eB W1 w3.heap.size 0 (rowL (k - 1 - i) ((dc (P % 10) :: acc) ++ List.replicate (12 - k) 0))) := Lib.hid (by
          have h := putRow_set eB W1 w3.heap.size 0 (rowL ((k - 1 - i) + 1) (acc ++ List.replicate (12 - k) 0)) (k - 1 - i) (dc (P % 10)) (by rw [rowL_size]; omega)
          rw [rowL_set, Nat.zero_add, ← HWr2.out] at h
          exact h)
        have HN : Hid (pad k F = pad (k - 1 - i) (P / 10) ++ (dc (P % 10) :: acc)) := Lib.hid (by rw [HP.out, HE1.out]; show (pad (k - 1 - i) (P / 10) ++ [dc (P % 10)]) ++ acc = _; simp)
        clear HP
        go_wp2
        go_roundw
        case rel =>
          refine ⟨i + 1, P / 10, dc (P % 10) :: acc, by omega, by simp [hal], by push_cast; rfl, by go_num, by omega, Lib.hid (by rw [HE2.out]; exact HN.out), Lib.hid ?_⟩
          rw [dig36 _ hmn, HE2.out]; exact HV.out
        case measure => simp [intOf]; omega
      · obtain rfl : i = k := by omega
        have HWr2 : Hid (W0 = putRow eB W1 w3.heap.size 0 (rowL 0 (acc ++ List.replicate (12 - i) 0))) := Lib.hid (by have := HWr.out; rw [Nat.sub_self] at this; exact this)
        have hpa : pad i F = acc := by have := HP.out; rw [Nat.sub_self] at this; rw [this]; rfl
        have hsl := slice12 w3.heap.size i hk (by omega)
        have hcv := row_front W1 W0 w3.heap.size 12 acc (List.replicate (12 - i) 0) 12 hH.out HWr2.out (by simp; omega) 56 Tryz.underlying56
        rw [hal] at hcv
        have hms : (mkB acc).size = i := by rw [mkB_size, hal]
        have a2 : ∀ W, (Op.stringOp .add sa ⟨#[46]⟩).run Tryz.prog W = .ok (.string (sa ++ ⟨#[46]⟩)) W := fun W => run_string_add_sum (w := W) _ _ (by show sa.size + 1 ≤ _; omega)
        have a3 : ∀ W, (Op.stringOp .add (sa ++ ⟨#[46]⟩) (mkB acc)).run Tryz.prog W = .ok (.string (sa ++ ⟨#[46]⟩ ++ mkB acc)) W := fun W => run_string_add_sum (w := W) _ _ (by rw [hms, ByteArray.size_append]; show sa.size + 1 + _ ≤ _; omega)
        have HR : Hid (Ending.returned (.tuple #[.string (sa ++ ⟨#[46]⟩ ++ mkB acc), .int .i64 0]) = .returned (.tuple #[.string (mkB (fixL p q.toNat i)), .int .i64 0])) := Lib.hid (by
          rw [HFL.out, hpa, ← HSA.out]
          show Ending.returned (.tuple #[.string (mkB (Lib.decDigits A) ++ mkB [46] ++ mkB acc), .int .i64 0]) = _
          rw [mkB_app, mkB_app]; simp)
        have HBE : Hid (RowKit.Below w.heap.size w W0) := Lib.hid (by
          rw [HWr.out]
          have h1 := HBel.out
          have h2 := HK.out
          exact below_putRow _ _ _ _ (h2.trans (h1.mono h2.size)) h2.size)
        clear hpa hms HWr HWr2 HP
        go_wp2
        go_ret2
        exact ⟨HR.out, HBE.out⟩

set_option maxHeartbeats 4000000 in
set_option maxRecDepth 100000 in
theorem fix_n1 (p q : Int) (k : Nat) (w : World) (he : Env w) (hv : vld p q = true) (hk : k ≤ 12) (hsg : p < 0 ∧ fixT p.natAbs q.toNat k ≠ 0) (hk0 : 0 < k) :
    Calls Tryz.prog 84 #[.agg #[.int .i64 p, .int .i64 q], .int .i64 k] w fun e w' => e = .returned (.tuple #[.string (mkB (fixL p q.toNat k)), .int .i64 0]) ∧ RowKit.Below w.heap.size w w' := by
  obtain ⟨g1, g2, g3, g4, _⟩ := vld_iff.1 hv
  have hTz := fixT_zero p.natAbs q.toNat k
  have R1 : Hid (∀ w, Calls Tryz.prog 107 #[.agg #[.int .i64 p, .int .i64 q], .int .i64 k] w fun e w' => e = .returned (.tuple #[.int .i64 ((fixT p.natAbs q.toNat k / 10 ^ k : Nat) : Int), .int .i64 ((fixT p.natAbs q.toNat k % 10 ^ k : Nat) : Int)]) ∧ RowKit.Below w.heap.size w w') := Lib.hid fun w => rounded_any p q k w hv hk
  have hfl : fixL p q.toNat k = [45] ++ (Lib.decDigits (fixT p.natAbs q.toNat k / 10 ^ k) ++ 46 :: pad k (fixT p.natAbs q.toNat k % 10 ^ k)) := by unfold fixL; rw [if_pos hsg, if_neg (by omega)]
  have hWl : fixT p.natAbs q.toNat k / 10 ^ k ≤ 2147483648 := by
    have hqn : 0 < q.toNat := by omega
    rw [(fixT_div p.natAbs q.toNat k hqn).1]
    have h1 := Nat.div_le_self p.natAbs q.toNat
    have h2 := fixN_lt (p.natAbs % q.toNat) q.toNat k (Nat.mod_lt _ hqn)
    have h3 := up_01 (fixN p.natAbs q.toNat k) (fixR p.natAbs q.toNat k) q.toNat
    have h4 : (fixN (p.natAbs % q.toNat) q.toNat k + up (fixN p.natAbs q.toNat k) (fixR p.natAbs q.toNat k) q.toNat) / 10 ^ k ≤ 1 := by
      have hpp := pow_pos10 k
      generalize up (fixN p.natAbs q.toNat k) (fixR p.natAbs q.toNat k) q.toNat = u at h3 ⊢
      generalize fixN (p.natAbs % q.toNat) q.toNat k = m at h2 ⊢
      have : (m + u) / 10 ^ k ≤ 10 ^ k / 10 ^ k := Nat.div_le_div_right (by omega)
      rw [Nat.div_self hpp] at this; exact this
    omega
  have hFl : fixT p.natAbs q.toNat k % 10 ^ k < 10 ^ k := Nat.mod_lt _ (pow_pos10 k)
  have hp12 := pow12 hk
  generalize fixT p.natAbs q.toNat k / 10 ^ k = A at *
  generalize fixT p.natAbs q.toNat k % 10 ^ k = F at *
  have I1 : Hid (∀ w, Env w → Calls Tryz.prog 106 #[.int .i64 (A : Int)] w fun e w' => e = .returned (.string (mkB (Lib.decDigits A))) ∧ RowKit.Below w.heap.size w w') := Lib.hid fun w he => by
    have := itoa_any (A : Int) w (by omega) (by omega) he
    rw [Lib.itoa_nonneg] at this; exact this
  have hsa : (mkB (Lib.decDigits A)).size ≤ 30 := by
    rw [mkB_size]; have := Lib.itoa_length_le (A : Int) (by omega) (by omega); rw [Lib.itoa_nonneg] at this; omega
  have hp : p < 0 := hsg.1
  have hAF : ¬ (A = 0 ∧ F = 0) := fun h => hsg.2 (hTz.2 h)
  clear hsg hTz
  have HFL := Lib.hid hfl
  clear hfl
  have HE := Lib.hid (he.alloc (.cells #[.int .i64 p, .int .i64 q] 44))
  have a1 : ∀ W, (Op.stringOp .add ⟨#[45]⟩ (mkB (Lib.decDigits A))).run Tryz.prog W = .ok (.string (⟨#[45]⟩ ++ mkB (Lib.decDigits A))) W := fun W => run_string_add_sum (w := W) _ _ (by show 1 + _ ≤ _; omega)
  have hkb : ((k : Int) == 0) = false := by rw [beq_eq_false_iff_ne]; omega
  generalize hsaE : mkB (Lib.decDigits A) = sa at *
  have HSA := Lib.hid hsaE
  clear hsaE
  by_cases hA0 : A = 0
  · have hAb : ((A : Int) != 0) = false := by rw [bne_eq_false_iff_eq]; omega
    have hFb : ((F : Int) != 0) = true := by rw [bne_iff_ne]; omega
    clear hAF hA0
    go_enter Tryz.func84, Tryz.ntmps84
    go_wp2_with (first | (go_at_call 103; refine (valid_any _ _ _).mono ?_; rintro e w1 ⟨rfl, hb1⟩; have HE1 := Lib.hid (HE.out.on hb1); obtain ⟨hc1, hf1⟩ := bcell hb1; have hz := hb1.size; (try simp at hz); (try (have z1_0 : w.heap.size < w1.heap.size := (by omega))); (try (have z1_1 : w.heap.size + 1 < w1.heap.size := (by omega))); clear hz) | (go_at_call 107; (with_reducible refine (R1.out _).mono ?_); rintro e w2 ⟨rfl, hb2⟩; have HE2 := Lib.hid (HE1.out.on hb2); obtain ⟨hc2, hf2⟩ := bcell hb2; have hz := hb2.size; (try simp at hz); (try (have z2_0 : w.heap.size < w2.heap.size := (by omega))); (try (have z2_1 : w.heap.size + 1 < w2.heap.size := (by omega))); (try (have y2_1 : w1.heap.size < w2.heap.size := (by omega))); clear hz) | (go_at_call 106; (with_reducible refine (I1.out _ HE2.out).mono ?_); rintro e w3 ⟨rfl, hb3⟩; obtain ⟨hc3, hf3⟩ := bcell hb3; have hz := hb3.size; (try simp at hz); (try (have z3_0 : w.heap.size < w3.heap.size := (by omega))); (try (have z3_1 : w.heap.size + 1 < w3.heap.size := (by omega))); (try (have y3_1 : w1.heap.size < w3.heap.size := (by omega))); (try (have y3_2 : w2.heap.size < w3.heap.size := (by omega))); clear hz))
    have kB : RowKit.Below w.heap.size w w3 := by
      repeat (first | exact Below.refl _ _ | refine below_drewN ?_ _ | refine Below.drew ?_ | refine Below.setCell ?_ (by first | omega | (simp; done) | (simp; omega)) _ | refine Below.alloc ?_ (by first | omega | (simp; done) | (simp; omega)) _ | refine below_step (by assumption) (by first | omega | (simp; done) | (simp; omega)) ?_)
    have hH := Lib.hid (holds_12 w3)
    have HK := Lib.hid kB
    clear kB
    obtain ⟨W1, hW1⟩ : ∃ W1, w3.alloc zero12 = W1 := ⟨_, rfl⟩
    have hBel : RowKit.Below w3.heap.size w3 W1 := by rw [← hW1]; exact (RowKit.Below.refl _ _).alloc (Nat.le_refl _) _
    rw [hW1] at hH
    have HW := Lib.hid hW1
    have HBel := Lib.hid hBel
    clear hW1 hBel
    go_loopw [7, 10, 47] (fun vp _ vi wr => ∃ (i P : Nat) (acc : List UInt8), i ≤ k ∧ acc.length = i ∧ vp = .int .i64 P ∧ vi = .int .i64 i ∧ P ≤ 1000000000000 ∧ Hid (pad k F = pad (k - i) P ++ acc) ∧ Hid (wr = putRow eB W1 w3.heap.size 0 (rowL (k - i) (acc ++ List.replicate (12 - k) 0)))) (fun _ _ vi _ => k - (intOf vi).toNat)
    case atStart => exact ⟨0, F, [], by omega, rfl, by rfl, rfl, by omega, Lib.hid (by simp), Lib.hid (by
      have : rowL (k - 0) ([] ++ List.replicate (12 - k) 0) = rowL 12 [] := by simp only [rowL, List.nil_append, List.append_nil, Nat.sub_zero]; rw [List.replicate_append_replicate, show k + (12 - k) = 12 by omega]
      rw [this, putRow_self eB W1 w3.heap.size 0 (rowL 12 []) hH.out]; exact HW.out)⟩
    case round =>
      obtain ⟨i, P, acc, him, hal, rfl, rfl, hP, HP, HWr⟩ := hrel
      rename World => W0
      by_cases hik : i < k
      · have HE1 := Lib.hid (show k - i = (k - 1 - i) + 1 by omega)
        have HE2 := Lib.hid (show k - (i + 1) = k - 1 - i by omega)
        have HWr2 : Hid (W0 = putRow eB W1 w3.heap.size 0 (rowL ((k - 1 - i) + 1) (acc ++ List.replicate (12 - k) 0))) := Lib.hid (by rw [← HE1.out]; exact HWr.out)
        have hh := holds_putRow eB W1 w3.heap.size 0 (rowL 12 []) (rowL ((k - 1 - i) + 1) (acc ++ List.replicate (12 - k) 0)) hH.out (by rw [rowL_size, rowL_size]; simp; omega)
        rw [← HWr2.out] at hh
        have hj1 := hh (k - 1 - i) (by rw [rowL_size]; omega)
        rw [Nat.zero_add] at hj1
        obtain ⟨hcj, hfj⟩ := hj1
        unfold eB at hcj
        generalize (((rowL ((k - 1 - i) + 1) (acc ++ List.replicate (12 - k) 0))[k - 1 - i]!).toNat : Int) = G at hcj
        clear hh
        have hmn : P % 10 < 36 := by omega
        have HV : Hid (W0.setCell ⟨w3.heap.size, k - 1 - i, none⟩ (.int .u8 ((dc (P % 10)).toNat : Int)) = putRow eB W1 w3.heap.size 0 (rowL (k - 1 - i) ((dc (P % 10) :: acc) ++ List.replicate (12 - k) 0))) := Lib.hid (by
          have h := putRow_set eB W1 w3.heap.size 0 (rowL ((k - 1 - i) + 1) (acc ++ List.replicate (12 - k) 0)) (k - 1 - i) (dc (P % 10)) (by rw [rowL_size]; omega)
          rw [rowL_set, Nat.zero_add, ← HWr2.out] at h
          exact h)
        have HN : Hid (pad k F = pad (k - 1 - i) (P / 10) ++ (dc (P % 10) :: acc)) := Lib.hid (by rw [HP.out, HE1.out]; show (pad (k - 1 - i) (P / 10) ++ [dc (P % 10)]) ++ acc = _; simp)
        clear HP
        go_wp2
        go_roundw
        case rel =>
          refine ⟨i + 1, P / 10, dc (P % 10) :: acc, by omega, by simp [hal], by push_cast; rfl, by go_num, by omega, Lib.hid (by rw [HE2.out]; exact HN.out), Lib.hid ?_⟩
          rw [dig36 _ hmn, HE2.out]; exact HV.out
        case measure => simp [intOf]; omega
      · obtain rfl : i = k := by omega
        have HWr2 : Hid (W0 = putRow eB W1 w3.heap.size 0 (rowL 0 (acc ++ List.replicate (12 - i) 0))) := Lib.hid (by have := HWr.out; rw [Nat.sub_self] at this; exact this)
        have hpa : pad i F = acc := by have := HP.out; rw [Nat.sub_self] at this; rw [this]; rfl
        have hsl := slice12 w3.heap.size i hk (by omega)
        have hcv := row_front W1 W0 w3.heap.size 12 acc (List.replicate (12 - i) 0) 12 hH.out HWr2.out (by simp; omega) 56 Tryz.underlying56
        rw [hal] at hcv
        have hms : (mkB acc).size = i := by rw [mkB_size, hal]
        have a2 : ∀ W, (Op.stringOp .add (⟨#[45]⟩ ++ sa) ⟨#[46]⟩).run Tryz.prog W = .ok (.string ((⟨#[45]⟩ ++ sa) ++ ⟨#[46]⟩)) W := fun W => run_string_add_sum (w := W) _ _ (by rw [ByteArray.size_append]; show 1 + sa.size + 1 ≤ _; omega)
        have a3 : ∀ W, (Op.stringOp .add ((⟨#[45]⟩ ++ sa) ++ ⟨#[46]⟩) (mkB acc)).run Tryz.prog W = .ok (.string ((⟨#[45]⟩ ++ sa) ++ ⟨#[46]⟩ ++ mkB acc)) W := fun W => run_string_add_sum (w := W) _ _ (by rw [hms, ByteArray.size_append]; rw [ByteArray.size_append]; show 1 + sa.size + 1 + _ ≤ _; omega)
        have HR : Hid (Ending.returned (.tuple #[.string ((⟨#[45]⟩ ++ sa) ++ ⟨#[46]⟩ ++ mkB acc), .int .i64 0]) = .returned (.tuple #[.string (mkB (fixL p q.toNat i)), .int .i64 0])) := Lib.hid (by
          rw [HFL.out, hpa, ← HSA.out]
          show Ending.returned (.tuple #[.string (mkB [45] ++ mkB (Lib.decDigits A) ++ mkB [46] ++ mkB acc), .int .i64 0]) = _
          rw [mkB_app, mkB_app, mkB_app]; simp)
        have HBE : Hid (RowKit.Below w.heap.size w W0) := Lib.hid (by
          rw [HWr.out]
          have h1 := HBel.out
          have h2 := HK.out
          exact below_putRow _ _ _ _ (h2.trans (h1.mono h2.size)) h2.size)
        clear hpa hms HWr HWr2 HP
        go_wp2
        go_ret2
        exact ⟨HR.out, HBE.out⟩
  · have hAb : ((A : Int) != 0) = true := by rw [bne_iff_ne]; omega
    clear hAF hA0
    go_enter Tryz.func84, Tryz.ntmps84
    go_wp2_with (first | (go_at_call 103; refine (valid_any _ _ _).mono ?_; rintro e w1 ⟨rfl, hb1⟩; have HE1 := Lib.hid (HE.out.on hb1); obtain ⟨hc1, hf1⟩ := bcell hb1; have hz := hb1.size; (try simp at hz); (try (have z1_0 : w.heap.size < w1.heap.size := (by omega))); (try (have z1_1 : w.heap.size + 1 < w1.heap.size := (by omega))); clear hz) | (go_at_call 107; (with_reducible refine (R1.out _).mono ?_); rintro e w2 ⟨rfl, hb2⟩; have HE2 := Lib.hid (HE1.out.on hb2); obtain ⟨hc2, hf2⟩ := bcell hb2; have hz := hb2.size; (try simp at hz); (try (have z2_0 : w.heap.size < w2.heap.size := (by omega))); (try (have z2_1 : w.heap.size + 1 < w2.heap.size := (by omega))); (try (have y2_1 : w1.heap.size < w2.heap.size := (by omega))); clear hz) | (go_at_call 106; (with_reducible refine (I1.out _ HE2.out).mono ?_); rintro e w3 ⟨rfl, hb3⟩; obtain ⟨hc3, hf3⟩ := bcell hb3; have hz := hb3.size; (try simp at hz); (try (have z3_0 : w.heap.size < w3.heap.size := (by omega))); (try (have z3_1 : w.heap.size + 1 < w3.heap.size := (by omega))); (try (have y3_1 : w1.heap.size < w3.heap.size := (by omega))); (try (have y3_2 : w2.heap.size < w3.heap.size := (by omega))); clear hz))
    have kB : RowKit.Below w.heap.size w w3 := by
      repeat (first | exact Below.refl _ _ | refine below_drewN ?_ _ | refine Below.drew ?_ | refine Below.setCell ?_ (by first | omega | (simp; done) | (simp; omega)) _ | refine Below.alloc ?_ (by first | omega | (simp; done) | (simp; omega)) _ | refine below_step (by assumption) (by first | omega | (simp; done) | (simp; omega)) ?_)
    have hH := Lib.hid (holds_12 w3)
    have HK := Lib.hid kB
    clear kB
    obtain ⟨W1, hW1⟩ : ∃ W1, w3.alloc zero12 = W1 := ⟨_, rfl⟩
    have hBel : RowKit.Below w3.heap.size w3 W1 := by rw [← hW1]; exact (RowKit.Below.refl _ _).alloc (Nat.le_refl _) _
    rw [hW1] at hH
    have HW := Lib.hid hW1
    have HBel := Lib.hid hBel
    clear hW1 hBel
    go_loopw [7, 10, 47] (fun vp _ vi wr => ∃ (i P : Nat) (acc : List UInt8), i ≤ k ∧ acc.length = i ∧ vp = .int .i64 P ∧ vi = .int .i64 i ∧ P ≤ 1000000000000 ∧ Hid (pad k F = pad (k - i) P ++ acc) ∧ Hid (wr = putRow eB W1 w3.heap.size 0 (rowL (k - i) (acc ++ List.replicate (12 - k) 0)))) (fun _ _ vi _ => k - (intOf vi).toNat)
    case atStart => exact ⟨0, F, [], by omega, rfl, by rfl, rfl, by omega, Lib.hid (by simp), Lib.hid (by
      have : rowL (k - 0) ([] ++ List.replicate (12 - k) 0) = rowL 12 [] := by simp only [rowL, List.nil_append, List.append_nil, Nat.sub_zero]; rw [List.replicate_append_replicate, show k + (12 - k) = 12 by omega]
      rw [this, putRow_self eB W1 w3.heap.size 0 (rowL 12 []) hH.out]; exact HW.out)⟩
    case round =>
      obtain ⟨i, P, acc, him, hal, rfl, rfl, hP, HP, HWr⟩ := hrel
      rename World => W0
      by_cases hik : i < k
      · have HE1 := Lib.hid (show k - i = (k - 1 - i) + 1 by omega)
        have HE2 := Lib.hid (show k - (i + 1) = k - 1 - i by omega)
        have HWr2 : Hid (W0 = putRow eB W1 w3.heap.size 0 (rowL ((k - 1 - i) + 1) (acc ++ List.replicate (12 - k) 0))) := Lib.hid (by rw [← HE1.out]; exact HWr.out)
        have hh := holds_putRow eB W1 w3.heap.size 0 (rowL 12 []) (rowL ((k - 1 - i) + 1) (acc ++ List.replicate (12 - k) 0)) hH.out (by rw [rowL_size, rowL_size]; simp; omega)
        rw [← HWr2.out] at hh
        have hj1 := hh (k - 1 - i) (by rw [rowL_size]; omega)
        rw [Nat.zero_add] at hj1
        obtain ⟨hcj, hfj⟩ := hj1
        unfold eB at hcj
        generalize (((rowL ((k - 1 - i) + 1) (acc ++ List.replicate (12 - k) 0))[k - 1 - i]!).toNat : Int) = G at hcj
        clear hh
        have hmn : P % 10 < 36 := by omega
        have HV : Hid (W0.setCell ⟨w3.heap.size, k - 1 - i, none⟩ (.int .u8 ((dc (P % 10)).toNat : Int)) = putRow eB W1 w3.heap.size 0 (rowL (k - 1 - i) ((dc (P % 10) :: acc) ++ List.replicate (12 - k) 0))) := Lib.hid (by
          have h := putRow_set eB W1 w3.heap.size 0 (rowL ((k - 1 - i) + 1) (acc ++ List.replicate (12 - k) 0)) (k - 1 - i) (dc (P % 10)) (by rw [rowL_size]; omega)
          rw [rowL_set, Nat.zero_add, ← HWr2.out] at h
          exact h)
        have HN : Hid (pad k F = pad (k - 1 - i) (P / 10) ++ (dc (P % 10) :: acc)) := Lib.hid (by rw [HP.out, HE1.out]; show (pad (k - 1 - i) (P / 10) ++ [dc (P % 10)]) ++ acc = _; simp)
        clear HP
        go_wp2
        go_roundw
        case rel =>
          refine ⟨i + 1, P / 10, dc (P % 10) :: acc, by omega, by simp [hal], by push_cast; rfl, by go_num, by omega, Lib.hid (by rw [HE2.out]; exact HN.out), Lib.hid ?_⟩
          rw [dig36 _ hmn, HE2.out]; exact HV.out
        case measure => simp [intOf]; omega
      · obtain rfl : i = k := by omega
        have HWr2 : Hid (W0 = putRow eB W1 w3.heap.size 0 (rowL 0 (acc ++ List.replicate (12 - i) 0))) := Lib.hid (by have := HWr.out; rw [Nat.sub_self] at this; exact this)
        have hpa : pad i F = acc := by have := HP.out; rw [Nat.sub_self] at this; rw [this]; rfl
        have hsl := slice12 w3.heap.size i hk (by omega)
        have hcv := row_front W1 W0 w3.heap.size 12 acc (List.replicate (12 - i) 0) 12 hH.out HWr2.out (by simp; omega) 56 Tryz.underlying56
        rw [hal] at hcv
        have hms : (mkB acc).size = i := by rw [mkB_size, hal]
        have a2 : ∀ W, (Op.stringOp .add (⟨#[45]⟩ ++ sa) ⟨#[46]⟩).run Tryz.prog W = .ok (.string ((⟨#[45]⟩ ++ sa) ++ ⟨#[46]⟩)) W := fun W => run_string_add_sum (w := W) _ _ (by rw [ByteArray.size_append]; show 1 + sa.size + 1 ≤ _; omega)
        have a3 : ∀ W, (Op.stringOp .add ((⟨#[45]⟩ ++ sa) ++ ⟨#[46]⟩) (mkB acc)).run Tryz.prog W = .ok (.string ((⟨#[45]⟩ ++ sa) ++ ⟨#[46]⟩ ++ mkB acc)) W := fun W => run_string_add_sum (w := W) _ _ (by rw [hms, ByteArray.size_append]; rw [ByteArray.size_append]; show 1 + sa.size + 1 + _ ≤ _; omega)
        have HR : Hid (Ending.returned (.tuple #[.string ((⟨#[45]⟩ ++ sa) ++ ⟨#[46]⟩ ++ mkB acc), .int .i64 0]) = .returned (.tuple #[.string (mkB (fixL p q.toNat i)), .int .i64 0])) := Lib.hid (by
          rw [HFL.out, hpa, ← HSA.out]
          show Ending.returned (.tuple #[.string (mkB [45] ++ mkB (Lib.decDigits A) ++ mkB [46] ++ mkB acc), .int .i64 0]) = _
          rw [mkB_app, mkB_app, mkB_app]; simp)
        have HBE : Hid (RowKit.Below w.heap.size w W0) := Lib.hid (by
          rw [HWr.out]
          have h1 := HBel.out
          have h2 := HK.out
          exact below_putRow _ _ _ _ (h2.trans (h1.mono h2.size)) h2.size)
        clear hpa hms HWr HWr2 HP
        go_wp2
        go_ret2
        exact ⟨HR.out, HBE.out⟩

theorem fix_any (p q k : Int) (w : World) (he : Env w) :
    Calls Tryz.prog 84 #[.agg #[.int .i64 p, .int .i64 q], .int .i64 k] w fun e w' => e = .returned (.tuple #[.string (mkB (fixS p q k)), .int .i64 (fixE p q k)]) ∧ RowKit.Below w.heap.size w w' := by
  cases hv : vld p q with
  | false => exact fix_inv p q k w hv
  | true =>
    by_cases hk : 0 ≤ k ∧ k ≤ 12
    · rw [show fixS p q k = fixL p q.toNat k.toNat by unfold fixS; rw [if_pos ⟨hv, hk⟩], show fixE p q k = 0 by unfold fixE; rw [if_pos ⟨hv, hk⟩]]
      obtain ⟨n, rfl⟩ := Int.eq_ofNat_of_zero_le hk.1
      rw [Int.toNat_natCast]
      by_cases hs : p < 0 ∧ fixT p.natAbs q.toNat n ≠ 0
      · by_cases h0 : n = 0
        · exact fix_n0 p q n w he hv (by omega) hs h0
        · exact fix_n1 p q n w he hv (by omega) hs (by omega)
      · by_cases h0 : n = 0
        · exact fix_p0 p q n w he hv (by omega) hs h0
        · exact fix_p1 p q n w he hv (by omega) hs (by omega)
    · exact fix_out p q k w hv (by omega)
end Go.Proofs.YtbdcmnhfmkefdaaGreatDoor
