/- Contracts of layer 1: the power of the program. -/
import Derived.Test.YtpoljkgfaceniaaRatG
namespace Go.Proofs.Ytpoljkgfaceniaa
open Go.RowKit M1

theorem mul_step (r : Rat) (i : Nat) (P Q : Int) (w : World) (hP : oP r = P) (hQ : oQ r = Q) (hr : fit r = true) (hs : fit (pw r i) = true) :
    Calls Try.prog 33 #[.agg #[.int .i64 (oP (pw r i)), .int .i64 (oQ (pw r i))], .agg #[.int .i64 P, .int .i64 Q]] w fun e w' => e = .returned (.tuple #[.agg #[.int .i64 (oP (pw r (i + 1))), .int .i64 (oQ (pw r (i + 1)))], .int .i64 (oE (pw r (i + 1)))]) ∧ Below w.heap.size w w' := by
  have h := mul_any (oP (pw r i)) (oQ (pw r i)) P Q w
  rw [← hP, ← hQ, mul_o hs hr, ← pw_succ] at h
  rw [← hP, ← hQ]
  exact h
theorem out_P (r : Rat) : (out r).P = oP r ∧ (out r).Q = oQ r ∧ (out r).E = oE r := ⟨rfl, rfl, rfl⟩

/-- What holds at the head of the loop. -/
structure PowInv (w wr : World) (B : Nat) (r : Rat) (P Q : Int) (i : Nat) : Prop where
  c0 : wr.cell? ⟨B, 0, none⟩ = some (.int .i64 (oP (pw r i)))
  c1 : wr.cell? ⟨B, 1, none⟩ = some (.int .i64 (oQ (pw r i)))
  d0 : wr.cell? ⟨w.heap.size, 0, none⟩ = some (.int .i64 P)
  d1 : wr.cell? ⟨w.heap.size, 1, none⟩ = some (.int .i64 Q)
  e0 : wr.cell? ⟨w.heap.size + 1 + 1, 0, none⟩ = some (.int .i64 0)
  e1 : wr.cell? ⟨w.heap.size + 1 + 1, 1, none⟩ = some (.int .i64 0)
  f0 : wr.frozen? ⟨B, 0, none⟩ = false
  f1 : wr.frozen? ⟨B, 1, none⟩ = false
  g0 : wr.frozen? ⟨w.heap.size + 1 + 1, 0, none⟩ = false
  g1 : wr.frozen? ⟨w.heap.size + 1 + 1, 1, none⟩ = false
  s0 : w.heap.size + 2 < B
  s1 : B < wr.heap.size
  be : Below w.heap.size w wr
  fi : fit (pw r i) = true

theorem ad_ne {a b o p : Nat} (h : a ≠ b) : (⟨a, o, none⟩ : Addr) ≠ ⟨b, p, none⟩ := fun e => h (by injection e)
theorem ad_ne' {a o p : Nat} (h : o ≠ p) : (⟨a, o, none⟩ : Addr) ≠ ⟨a, p, none⟩ := fun e => h (by injection e)
theorem inv_start {w w1 : World} {r : Rat} {P Q : Int} (o : TypeId) (d0 : w1.cell? ⟨w.heap.size, 0, none⟩ = some (.int .i64 P)) (d1 : w1.cell? ⟨w.heap.size, 1, none⟩ = some (.int .i64 Q))
    (e0 : w1.cell? ⟨w.heap.size + 1 + 1, 0, none⟩ = some (.int .i64 0)) (e1 : w1.cell? ⟨w.heap.size + 1 + 1, 1, none⟩ = some (.int .i64 0))
    (g0 : w1.frozen? ⟨w.heap.size + 1 + 1, 0, none⟩ = false) (g1 : w1.frozen? ⟨w.heap.size + 1 + 1, 1, none⟩ = false) (s : w.heap.size + 2 < w1.heap.size) (be : Below w.heap.size w w1) :
    PowInv w (w1.alloc (.cells #[.int .i64 1, .int .i64 1] o)) w1.heap.size r P Q 0 := by
  refine ⟨?_, ?_, ?_, ?_, ?_, ?_, ?_, ?_, ?_, ?_, s, by simp, be.alloc (by omega) _, by rw [pw_zero]; exact fit_one⟩
  · rw [pw_zero, o_one.1]; go_simp
  · rw [pw_zero, o_one.2.1]; go_simp
  · rw [World.cell?_alloc_lt _ _ _ (by simp; omega)]; exact d0
  · rw [World.cell?_alloc_lt _ _ _ (by simp; omega)]; exact d1
  · rw [World.cell?_alloc_lt _ _ _ (by simp; omega)]; exact e0
  · rw [World.cell?_alloc_lt _ _ _ (by simp; omega)]; exact e1
  · go_simp
  · go_simp
  · rw [World.frozen?_alloc_old _ _ _ (by simp; omega)]; exact g0
  · rw [World.frozen?_alloc_old _ _ _ (by simp; omega)]; exact g1
theorem inv_step {w wr w5 : World} {r : Rat} {P Q : Int} {B i : Nat} (ob : Obj) (h : PowInv w wr B r P Q i) (hb : Below wr.heap.size wr w5) (hf : fit (pw r (i + 1)) = true) :
    PowInv w (((w5.setCell ⟨B, 0, none⟩ (.int .i64 (oP (pw r (i + 1))))).setCell ⟨B, 1, none⟩ (.int .i64 (oQ (pw r (i + 1))))).alloc ob) B r P Q (i + 1) := by
  obtain ⟨hc, hg⟩ := bcell hb
  have hz := hb.size
  have s0 := h.s0
  have s1 := h.s1
  have C : ∀ b o v, b ≠ B → b < wr.heap.size → wr.cell? ⟨b, o, none⟩ = some v → (((w5.setCell ⟨B, 0, none⟩ (.int .i64 (oP (pw r (i + 1))))).setCell ⟨B, 1, none⟩ (.int .i64 (oQ (pw r (i + 1))))).alloc ob).cell? ⟨b, o, none⟩ = some v := by
    intro b o v hne hlt he
    rw [World.cell?_alloc_lt _ _ _ (by simp; omega), World.cell?_setCell_other (h := ad_ne (Ne.symm hne)), World.cell?_setCell_other (h := ad_ne (Ne.symm hne)), hc b o hlt, he]
  have G : ∀ b o v, b < wr.heap.size → wr.frozen? ⟨b, o, none⟩ = v → (((w5.setCell ⟨B, 0, none⟩ (.int .i64 (oP (pw r (i + 1))))).setCell ⟨B, 1, none⟩ (.int .i64 (oQ (pw r (i + 1))))).alloc ob).frozen? ⟨b, o, none⟩ = v := by
    intro b o v hlt he
    rw [World.frozen?_alloc_old _ _ _ (by simp; omega), World.frozen?_setCell, World.frozen?_setCell, hg b o hlt, he]
  refine ⟨?_, ?_, C _ _ _ (by omega) (by omega) h.d0, C _ _ _ (by omega) (by omega) h.d1, C _ _ _ (by omega) (by omega) h.e0, C _ _ _ (by omega) (by omega) h.e1,
    G _ _ _ s1 h.f0, G _ _ _ s1 h.f1, G _ _ _ (by omega) h.g0, G _ _ _ (by omega) h.g1, s0, by simp; omega, ?_, hf⟩
  · rw [World.cell?_alloc_lt _ _ _ (by simp; omega), World.cell?_setCell_other (h := ad_ne' (by decide))]
    exact World.cell?_setCell_same _ _ _ (by rw [hc B 0 s1]; exact h.c0)
  · rw [World.cell?_alloc_lt _ _ _ (by simp; omega)]
    exact World.cell?_setCell_same _ _ _ (by rw [World.cell?_setCell_other (h := ad_ne' (by decide)), hc B 1 s1]; exact h.c1)
  · exact Below.alloc (Below.setCell (Below.setCell (h.be.trans (hb.mono (by omega))) (by simp; omega) _) (by simp; omega) _) (by simp; omega) _

theorem inv_start2 {w w1 w3 : World} {r : Rat} {P Q p q : Int} (o : TypeId) (ob : Obj) (d0 : w1.cell? ⟨w.heap.size, 0, none⟩ = some (.int .i64 p)) (d1 : w1.cell? ⟨w.heap.size, 1, none⟩ = some (.int .i64 q))
    (e0 : w1.cell? ⟨w.heap.size + 1 + 1, 0, none⟩ = some (.int .i64 0)) (e1 : w1.cell? ⟨w.heap.size + 1 + 1, 1, none⟩ = some (.int .i64 0))
    (g0 : w1.frozen? ⟨w.heap.size + 1 + 1, 0, none⟩ = false) (g1 : w1.frozen? ⟨w.heap.size + 1 + 1, 1, none⟩ = false) (s : w.heap.size + 2 < w1.heap.size) (be : Below w.heap.size w w1)
    (hb : Below (w1.alloc (.cells #[.int .i64 1, .int .i64 1] o)).heap.size (w1.alloc (.cells #[.int .i64 1, .int .i64 1] o)) w3) :
    PowInv w (((w3.setCell ⟨w.heap.size, 0, none⟩ (.int .i64 P)).setCell ⟨w.heap.size, 1, none⟩ (.int .i64 Q)).alloc ob) w1.heap.size r P Q 0 := by
  have h := inv_start (r := r) o d0 d1 e0 e1 g0 g1 s be
  obtain ⟨hc, hg⟩ := bcell hb
  have hz := hb.size
  have z : (w1.alloc (.cells #[.int .i64 1, .int .i64 1] o)).heap.size = w1.heap.size + 1 := by simp
  rw [z] at hc hg hz
  have C : ∀ b o' v, b ≠ w.heap.size → b ≤ w1.heap.size → (w1.alloc (.cells #[.int .i64 1, .int .i64 1] o)).cell? ⟨b, o', none⟩ = some v → (((w3.setCell ⟨w.heap.size, 0, none⟩ (.int .i64 P)).setCell ⟨w.heap.size, 1, none⟩ (.int .i64 Q)).alloc ob).cell? ⟨b, o', none⟩ = some v := by
    intro b o' v hne hlt he
    rw [World.cell?_alloc_lt _ _ _ (by simp; omega), World.cell?_setCell_other (h := ad_ne (Ne.symm hne)), World.cell?_setCell_other (h := ad_ne (Ne.symm hne)), hc b o' (by omega), he]
  have G : ∀ b o' v, b ≤ w1.heap.size → (w1.alloc (.cells #[.int .i64 1, .int .i64 1] o)).frozen? ⟨b, o', none⟩ = v → (((w3.setCell ⟨w.heap.size, 0, none⟩ (.int .i64 P)).setCell ⟨w.heap.size, 1, none⟩ (.int .i64 Q)).alloc ob).frozen? ⟨b, o', none⟩ = v := by
    intro b o' v hlt he
    rw [World.frozen?_alloc_old _ _ _ (by simp; omega), World.frozen?_setCell, World.frozen?_setCell, hg b o' (by omega), he]
  refine ⟨C _ _ _ (by omega) (by omega) h.c0, C _ _ _ (by omega) (by omega) h.c1, ?_, ?_, C _ _ _ (by omega) (by omega) h.e0, C _ _ _ (by omega) (by omega) h.e1,
    G _ _ _ (by omega) h.f0, G _ _ _ (by omega) h.f1, G _ _ _ (by omega) h.g0, G _ _ _ (by omega) h.g1, s, by simp; omega, ?_, h.fi⟩
  · rw [World.cell?_alloc_lt _ _ _ (by simp; omega), World.cell?_setCell_other (h := ad_ne' (by decide))]
    exact World.cell?_setCell_same _ _ _ (by rw [hc _ 0 (by omega)]; exact h.d0)
  · rw [World.cell?_alloc_lt _ _ _ (by simp; omega)]
    exact World.cell?_setCell_same _ _ _ (by rw [World.cell?_setCell_other (h := ad_ne' (by decide)), hc _ 1 (by omega)]; exact h.d1)
  · exact Below.alloc (Below.setCell (Below.setCell (h.be.trans (hb.mono (by rw [z]; omega))) (by simp) _) (by simp) _) (by simp; omega) _

set_option maxHeartbeats 2000000 in
theorem pow_pos_any (p q n m : Int) (w : World) (h1 : vld p q = true) (h2 : whB n m = true) (h4 : -64 ≤ n) (h5 : n ≤ 64) (hn : 0 ≤ n) :
    Calls Try.prog 41 #[.agg #[.int .i64 p, .int .i64 q], .agg #[.int .i64 n, .int .i64 m]] w fun e w' => e = .returned (.tuple #[.agg #[.int .i64 (powR p q n m).P, .int .i64 (powR p q n m).Q], .int .i64 (powR p q n m).E]) ∧ Below w.heap.size w w' := by
  have hwp := whP_yes h2
  rw [show powR p q n m = out (pw (rat p q) n.natAbs) by unfold powR pwr; rw [if_pos ⟨h1, h2, h4, h5⟩, if_neg (by omega), if_neg (by omega)]]
  have hn0 : decide (n < 0) = false := by simpa using hn
  have HP := Lib.hid (oP_rat h1)
  have HQ := Lib.hid (oQ_rat h1)
  have HR := Lib.hid (rat_fit h1)
  generalize rat p q = r at *
  go_enter Try.func41, Try.ntmps41
  go_wp2_with (first | (go_at_call 19; refine (whole_any _ _ _).mono ?_; rintro e w1 ⟨rfl, hb1⟩; obtain ⟨hc1, hf1⟩ := bcell hb1; have hz := hb1.size; (try simp at hz); have z0 : w.heap.size < w1.heap.size := (by omega); have z1 : w.heap.size + 1 < w1.heap.size := (by omega); have z2 : w.heap.size + 2 < w1.heap.size := (by omega); clear hz) | (go_at_call 23; refine (valid_any _ _ _).mono ?_; rintro e w1 ⟨rfl, hb1⟩; obtain ⟨hc1, hf1⟩ := bcell hb1; have hz := hb1.size; (try simp at hz); have z0 : w.heap.size < w1.heap.size := (by omega); have z1 : w.heap.size + 1 < w1.heap.size := (by omega); have z2 : w.heap.size + 2 < w1.heap.size := (by omega); clear hz) | (go_at_call 48; refine (within_yes _ _ _ h4 h5 (by omega) (by omega)).mono ?_; rintro e wz ⟨rfl, rfl⟩))
  go_loopw [48] (fun v wr => ∃ i : Nat, i ≤ n.natAbs ∧ v = .int .i64 i ∧ PowInv w wr w1.heap.size r p q i) (fun v _ => n.natAbs - (intOf v).toNat)
  case atStart =>
    exact ⟨0, Nat.zero_le _, rfl, inv_start _ (by go_simp) (by go_simp) (by go_simp) (by go_simp) (by go_simp) (by go_simp) (by omega) (by repeat (first | exact Below.refl _ _ | refine below_drewN ?_ _ | refine Below.setCell ?_ (by first | omega | (simp; done) | (simp; omega)) _ | refine Below.alloc ?_ (by first | omega | (simp; done) | (simp; omega)) _ | refine below_step (by assumption) (by first | omega | (simp; done) | (simp; omega)) ?_))⟩
  case round =>
    obtain ⟨i, hi, rfl, c0, c1, d0, d1, e0, e1, f0, f1, g0, g1, s0, s1, be, fi⟩ := hrel
    have HV := Lib.hid (PowInv.mk c0 c1 d0 d1 e0 e1 f0 f1 g0 g1 s0 s1 be fi)
    have BE := Lib.hid be
    have FI := Lib.hid fi
    clear be fi
    have y0 : w.heap.size < wr.heap.size := by omega
    have y1 : w.heap.size + 1 < wr.heap.size := by omega
    have y2 : w.heap.size + 2 < wr.heap.size := by omega
    by_cases hlt : i < n.natAbs
    · by_cases hf : fit (pw r (i + 1)) = true
      · have hE := oE_fit hf
        have HF := Lib.hid hf
        clear hf
        go_wp2_with (go_at_call 33; refine (mul_step r i p q _ HP.out HQ.out HR.out FI.out).mono ?_; rintro e w5 ⟨rfl, hb5⟩; obtain ⟨hc5, hf5⟩ := bcell hb5; have HB5 := Lib.hid hb5; have hz5 := hb5.size; have y3 : w.heap.size < w5.heap.size := (by omega); have y4 : w.heap.size + 1 < w5.heap.size := (by omega); have y5 : w.heap.size + 2 < w5.heap.size := (by omega); have y6 : w1.heap.size < w5.heap.size := (by omega))
        go_roundw
        case rel => exact ⟨i + 1, by omega, by go_num, inv_step _ HV.out HB5.out HF.out⟩
        case measure => simp [intOf]; omega
      · have hf' : fit (pw r (i + 1)) = false := by simpa using hf
        have hE := oE_not hf'
        have HO := Lib.hid (out_no (pw_no hlt hf'))
        clear hf hf'
        go_wp2_with (go_at_call 33; refine (mul_step r i p q _ HP.out HQ.out HR.out FI.out).mono ?_; rintro e w5 ⟨rfl, hb5⟩; obtain ⟨hc5, hf5⟩ := bcell hb5; have hz5 := hb5.size; have y3 : w.heap.size < w5.heap.size := (by omega); have y4 : w.heap.size + 1 < w5.heap.size := (by omega); have y5 : w.heap.size + 2 < w5.heap.size := (by omega); have y6 : w1.heap.size < w5.heap.size := (by omega))
        refine bodyPost_ret (v := .tuple #[.agg #[.int .i64 0, .int .i64 0], .int .i64 6]) (by simp [results, Try.results41, go_sem, *]) rfl ?_
        have be := BE.out
        refine ⟨by rw [HO.out]; rfl, ?_⟩
        repeat (first | exact Below.refl _ _ | refine below_drewN ?_ _ | refine Below.setCell ?_ (by first | omega | (simp; done) | (simp; omega)) _ | refine Below.alloc ?_ (by first | omega | (simp; done) | (simp; omega)) _ | refine below_step (by assumption) (by first | omega | (simp; done) | (simp; omega)) ?_)
    · obtain rfl : i = n.natAbs := by omega
      have HO := Lib.hid (oE_fit FI.out)
      go_wp2
      refine bodyPost_ret (v := .tuple #[.agg #[.int .i64 (oP (pw r n.natAbs)), .int .i64 (oQ (pw r n.natAbs))], .int .i64 0]) (by simp [results, Try.results41, go_sem, *]) rfl ?_
      have be := BE.out
      refine ⟨by rw [(out_P _).1, (out_P _).2.1, (out_P _).2.2, HO.out], ?_⟩
      repeat (first | exact Below.refl _ _ | refine below_drewN ?_ _ | refine Below.setCell ?_ (by first | omega | (simp; done) | (simp; omega)) _ | refine Below.alloc ?_ (by first | omega | (simp; done) | (simp; omega)) _ | refine below_step (by assumption) (by first | omega | (simp; done) | (simp; omega)) ?_)

theorem div_one (p q : Int) (w : World) (h1 : vld p q = true) (hp : p ≠ 0) :
    Calls Try.prog 35 #[.agg #[.int .i64 1, .int .i64 1], .agg #[.int .i64 p, .int .i64 q]] w fun e w' => e = .returned (.tuple #[.agg #[.int .i64 (oP (rat q p)), .int .i64 (oQ (rat q p))], .int .i64 0]) ∧ Below w.heap.size w w' := by
  have h := div_any 1 1 p q w
  rw [show divR 1 1 p q = out (rat q p) by unfold divR; rw [if_pos (dvE_0 (by decide +kernel) h1 hp), Int.one_mul, Int.one_mul]] at h
  rw [show (out (rat q p)).E = 0 from oE_fit (fit_inv h1 hp)] at h
  exact h
theorem div_zero (q : Int) (w : World) (h1 : vld 0 q = true) :
    Calls Try.prog 35 #[.agg #[.int .i64 1, .int .i64 1], .agg #[.int .i64 0, .int .i64 q]] w fun e w' => e = .returned (.tuple #[.agg #[.int .i64 0, .int .i64 0], .int .i64 7]) ∧ Below w.heap.size w w' := by
  have h := div_any 1 1 0 q w
  have e7 : dvE 1 1 0 q = 7 := dvE_7 (by decide +kernel) h1 rfl
  rw [show divR 1 1 0 q = err 7 by unfold divR; rw [e7]; rfl] at h
  exact h
set_option maxHeartbeats 2000000 in
theorem pow_neg_any (p q n m : Int) (w : World) (h1 : vld p q = true) (h2 : whB n m = true) (h4 : -64 ≤ n) (h5 : n ≤ 64) (hn : n < 0) (hp : p ≠ 0) :
    Calls Try.prog 41 #[.agg #[.int .i64 p, .int .i64 q], .agg #[.int .i64 n, .int .i64 m]] w fun e w' => e = .returned (.tuple #[.agg #[.int .i64 (powR p q n m).P, .int .i64 (powR p q n m).Q], .int .i64 (powR p q n m).E]) ∧ Below w.heap.size w w' := by
  have hwp := whP_yes h2
  rw [show powR p q n m = out (pw (rat q p) n.natAbs) by unfold powR pwr; rw [if_pos ⟨h1, h2, h4, h5⟩, if_neg (fun h => hp h.2), if_pos hn]]
  have hn1 : -n = (n.natAbs : Int) := by omega
  have HR := Lib.hid (fit_inv h1 hp)
  have dv := fun w => div_one p q w h1 hp
  have DV := Lib.hid dv
  clear dv
  generalize hr : rat q p = r at *
  clear hr
  obtain ⟨P, hP⟩ : ∃ P, oP r = P := ⟨_, rfl⟩
  obtain ⟨Q, hQ⟩ : ∃ Q, oQ r = Q := ⟨_, rfl⟩
  rw [hP, hQ] at DV
  have HP := Lib.hid hP
  have HQ := Lib.hid hQ
  clear hP hQ hp
  go_enter Try.func41, Try.ntmps41
  go_wp2_with (first | (go_at_call 19; refine (whole_any _ _ _).mono ?_; rintro e w1 ⟨rfl, hb1⟩; obtain ⟨hc1, hf1⟩ := bcell hb1; have hz := hb1.size; (try simp at hz); have z0 : w.heap.size < w1.heap.size := (by omega); have z1 : w.heap.size + 1 < w1.heap.size := (by omega); have z2 : w.heap.size + 2 < w1.heap.size := (by omega); clear hz) | (go_at_call 23; refine (valid_any _ _ _).mono ?_; rintro e w1 ⟨rfl, hb1⟩; obtain ⟨hc1, hf1⟩ := bcell hb1; have hz := hb1.size; (try simp at hz); have z0 : w.heap.size < w1.heap.size := (by omega); have z1 : w.heap.size + 1 < w1.heap.size := (by omega); have z2 : w.heap.size + 2 < w1.heap.size := (by omega); clear hz) | (go_at_call 48; refine (within_yes _ _ _ h4 h5 (by omega) (by omega)).mono ?_; rintro e wz ⟨rfl, rfl⟩) | (go_at_call 35; refine (DV.out _).mono ?_; rintro e w3 ⟨rfl, hb3⟩; obtain ⟨hc3, hf3⟩ := bcell hb3; have hz := hb3.size; (try simp at hz); have z0 : w.heap.size < w3.heap.size := (by omega); have z1 : w.heap.size + 1 < w3.heap.size := (by omega); have z2 : w.heap.size + 2 < w3.heap.size := (by omega); have z6 : w1.heap.size < w3.heap.size := (by omega); clear hz))
  go_loopw [48] (fun v wr => ∃ i : Nat, i ≤ n.natAbs ∧ v = .int .i64 i ∧ PowInv w wr w1.heap.size r P Q i) (fun v _ => n.natAbs - (intOf v).toNat)
  case atStart =>
    exact ⟨0, Nat.zero_le _, rfl, inv_start2 (p := p) (q := q) _ _ (by go_simp) (by go_simp) (by go_simp) (by go_simp) (by go_simp) (by go_simp) (by omega) (by repeat (first | exact Below.refl _ _ | refine below_drewN ?_ _ | refine Below.setCell ?_ (by first | omega | (simp; done) | (simp; omega)) _ | refine Below.alloc ?_ (by first | omega | (simp; done) | (simp; omega)) _ | refine below_step (by assumption) (by first | omega | (simp; done) | (simp; omega)) ?_)) hb3⟩
  case round =>
    obtain ⟨i, hi, rfl, c0, c1, d0, d1, e0, e1, f0, f1, g0, g1, s0, s1, be, fi⟩ := hrel
    have HV := Lib.hid (PowInv.mk c0 c1 d0 d1 e0 e1 f0 f1 g0 g1 s0 s1 be fi)
    have BE := Lib.hid be
    have FI := Lib.hid fi
    clear be fi
    have y0 : w.heap.size < wr.heap.size := by omega
    have y1 : w.heap.size + 1 < wr.heap.size := by omega
    have y2 : w.heap.size + 2 < wr.heap.size := by omega
    by_cases hlt : i < n.natAbs
    · by_cases hf : fit (pw r (i + 1)) = true
      · have hE := oE_fit hf
        have HF := Lib.hid hf
        clear hf
        go_wp2_with (go_at_call 33; refine (mul_step r i P Q _ HP.out HQ.out HR.out FI.out).mono ?_; rintro e w5 ⟨rfl, hb5⟩; obtain ⟨hc5, hf5⟩ := bcell hb5; have HB5 := Lib.hid hb5; have hz5 := hb5.size; have y3 : w.heap.size < w5.heap.size := (by omega); have y4 : w.heap.size + 1 < w5.heap.size := (by omega); have y5 : w.heap.size + 2 < w5.heap.size := (by omega); have y6 : w1.heap.size < w5.heap.size := (by omega))
        go_roundw
        case rel => exact ⟨i + 1, by omega, by go_num, inv_step _ HV.out HB5.out HF.out⟩
        case measure => simp [intOf]; omega
      · have hf' : fit (pw r (i + 1)) = false := by simpa using hf
        have hE := oE_not hf'
        have HO := Lib.hid (out_no (pw_no hlt hf'))
        clear hf hf'
        go_wp2_with (go_at_call 33; refine (mul_step r i P Q _ HP.out HQ.out HR.out FI.out).mono ?_; rintro e w5 ⟨rfl, hb5⟩; obtain ⟨hc5, hf5⟩ := bcell hb5; have hz5 := hb5.size; have y3 : w.heap.size < w5.heap.size := (by omega); have y4 : w.heap.size + 1 < w5.heap.size := (by omega); have y5 : w.heap.size + 2 < w5.heap.size := (by omega); have y6 : w1.heap.size < w5.heap.size := (by omega))
        refine bodyPost_ret (v := .tuple #[.agg #[.int .i64 0, .int .i64 0], .int .i64 6]) (by simp [results, Try.results41, go_sem, *]) rfl ?_
        have be := BE.out
        refine ⟨by rw [HO.out]; rfl, ?_⟩
        repeat (first | exact Below.refl _ _ | refine below_drewN ?_ _ | refine Below.setCell ?_ (by first | omega | (simp; done) | (simp; omega)) _ | refine Below.alloc ?_ (by first | omega | (simp; done) | (simp; omega)) _ | refine below_step (by assumption) (by first | omega | (simp; done) | (simp; omega)) ?_)
    · obtain rfl : i = n.natAbs := by omega
      have HO := Lib.hid (oE_fit FI.out)
      go_wp2
      refine bodyPost_ret (v := .tuple #[.agg #[.int .i64 (oP (pw r n.natAbs)), .int .i64 (oQ (pw r n.natAbs))], .int .i64 0]) (by simp [results, Try.results41, go_sem, *]) rfl ?_
      have be := BE.out
      refine ⟨by rw [(out_P _).1, (out_P _).2.1, (out_P _).2.2, HO.out], ?_⟩
      repeat (first | exact Below.refl _ _ | refine below_drewN ?_ _ | refine Below.setCell ?_ (by first | omega | (simp; done) | (simp; omega)) _ | refine Below.alloc ?_ (by first | omega | (simp; done) | (simp; omega)) _ | refine below_step (by assumption) (by first | omega | (simp; done) | (simp; omega)) ?_)

set_option maxHeartbeats 2000000 in
theorem pow_any (p q n m : Int) (w : World) :
    Calls Try.prog 41 #[.agg #[.int .i64 p, .int .i64 q], .agg #[.int .i64 n, .int .i64 m]] w fun e w' => e = .returned (.tuple #[.agg #[.int .i64 (powR p q n m).P, .int .i64 (powR p q n m).Q], .int .i64 (powR p q n m).E]) ∧ Below w.heap.size w w' := by
  by_cases h1 : vld p q = true
  · by_cases h2 : whB n m = true
    · by_cases h3 : -64 ≤ n ∧ n ≤ 64
      · by_cases hn : n < 0
        · by_cases hp : p = 0
          · subst hp
            have hwp := whP_yes h2
            rw [show powR 0 q n m = err 7 by unfold powR; rw [if_pos ⟨h1, h2, h3.1, h3.2⟩, if_pos ⟨hn, rfl⟩]]
            obtain ⟨h4, h5⟩ := h3
            go_enter Try.func41, Try.ntmps41
            go_wp2_with (first | (go_at_call 19; refine (whole_any _ _ _).mono ?_; rintro e w1 ⟨rfl, hb1⟩; obtain ⟨hc1, hf1⟩ := bcell hb1; have hz := hb1.size; (try simp at hz); have z0 : w.heap.size < w1.heap.size := (by omega); have z1 : w.heap.size + 1 < w1.heap.size := (by omega); have z2 : w.heap.size + 2 < w1.heap.size := (by omega); clear hz) | (go_at_call 23; refine (valid_any _ _ _).mono ?_; rintro e w1 ⟨rfl, hb1⟩; obtain ⟨hc1, hf1⟩ := bcell hb1; have hz := hb1.size; (try simp at hz); have z0 : w.heap.size < w1.heap.size := (by omega); have z1 : w.heap.size + 1 < w1.heap.size := (by omega); have z2 : w.heap.size + 2 < w1.heap.size := (by omega); clear hz) | (go_at_call 48; refine (within_yes _ _ _ h4 h5 (by omega) (by omega)).mono ?_; rintro e wz ⟨rfl, rfl⟩) | (go_at_call 35; refine (div_zero _ _ h1).mono ?_; rintro e w3 ⟨rfl, hb3⟩; obtain ⟨hc3, hf3⟩ := bcell hb3; have hz := hb3.size; (try simp at hz); have z0 : w.heap.size < w3.heap.size := (by omega); have z1 : w.heap.size + 1 < w3.heap.size := (by omega); have z2 : w.heap.size + 2 < w3.heap.size := (by omega); clear hz))
            refine bodyPost_ret (v := .tuple #[.agg #[.int .i64 (0), .int .i64 (0)], .int .i64 (7)]) (by simp [results, Try.results41, go_sem, *]) rfl ?_
            refine ⟨rfl, ?_⟩
            repeat (first | exact Below.refl _ _ | refine below_drewN ?_ _ | refine Below.setCell ?_ (by first | omega | (simp; done) | (simp; omega)) _ | refine Below.alloc ?_ (by first | omega | (simp; done) | (simp; omega)) _ | refine below_step (by assumption) (by first | omega | (simp; done) | (simp; omega)) ?_)
          · exact pow_neg_any p q n m w h1 h2 h3.1 h3.2 hn hp
        · exact pow_pos_any p q n m w h1 h2 h3.1 h3.2 (by omega)
      · rw [show powR p q n m = err 2 from if_neg (fun h => h3 ⟨h.2.2.1, h.2.2.2⟩)]
        have hwp := whP_yes h2
        have h4 : n < -64 ∨ 64 < n := by omega
        clear h3
        go_enter Try.func41, Try.ntmps41
        go_wp2_with (first | (go_at_call 19; refine (whole_any _ _ _).mono ?_; rintro e w1 ⟨rfl, hb1⟩; obtain ⟨hc1, hf1⟩ := bcell hb1; have hz := hb1.size; (try simp at hz); have z0 : w.heap.size < w1.heap.size := (by omega); have z1 : w.heap.size + 1 < w1.heap.size := (by omega); have z2 : w.heap.size + 2 < w1.heap.size := (by omega); clear hz) | (go_at_call 23; refine (valid_any _ _ _).mono ?_; rintro e w1 ⟨rfl, hb1⟩; obtain ⟨hc1, hf1⟩ := bcell hb1; have hz := hb1.size; (try simp at hz); have z0 : w.heap.size < w1.heap.size := (by omega); have z1 : w.heap.size + 1 < w1.heap.size := (by omega); have z2 : w.heap.size + 2 < w1.heap.size := (by omega); clear hz) | (go_at_call 48; refine (within_no _ _ _ h4 (by omega) (by omega)).mono ?_; rintro e wz ⟨rfl, rfl⟩))
        refine bodyPost_ret (v := .tuple #[.agg #[.int .i64 (0), .int .i64 (0)], .int .i64 (2)]) (by simp [results, Try.results41, go_sem, *]) rfl ?_
        refine ⟨rfl, ?_⟩
        repeat (first | exact Below.refl _ _ | refine below_drewN ?_ _ | refine Below.setCell ?_ (by first | omega | (simp; done) | (simp; omega)) _ | refine Below.alloc ?_ (by first | omega | (simp; done) | (simp; omega)) _ | refine below_step (by assumption) (by first | omega | (simp; done) | (simp; omega)) ?_)
    · rw [show powR p q n m = err 2 from if_neg (fun h => h2 h.2.1)]
      have h3 : whB n m = false := by simpa using h2
      clear h2
      go_enter Try.func41, Try.ntmps41
      go_wp2_with (first | (go_at_call 19; refine (whole_any _ _ _).mono ?_; rintro e w1 ⟨rfl, hb1⟩; obtain ⟨hc1, hf1⟩ := bcell hb1; have hz := hb1.size; (try simp at hz); have z0 : w.heap.size < w1.heap.size := (by omega); have z1 : w.heap.size + 1 < w1.heap.size := (by omega); have z2 : w.heap.size + 2 < w1.heap.size := (by omega); clear hz) | (go_at_call 23; refine (valid_any _ _ _).mono ?_; rintro e w1 ⟨rfl, hb1⟩; obtain ⟨hc1, hf1⟩ := bcell hb1; have hz := hb1.size; (try simp at hz); have z0 : w.heap.size < w1.heap.size := (by omega); have z1 : w.heap.size + 1 < w1.heap.size := (by omega); have z2 : w.heap.size + 2 < w1.heap.size := (by omega); clear hz) | (go_at_call 48; refine (within_yes _ _ _ h4 h5 (by omega) (by omega)).mono ?_; rintro e wz ⟨rfl, rfl⟩))
      refine bodyPost_ret (v := .tuple #[.agg #[.int .i64 (0), .int .i64 (0)], .int .i64 (2)]) (by simp [results, Try.results41, go_sem, *]) rfl ?_
      refine ⟨rfl, ?_⟩
      repeat (first | exact Below.refl _ _ | refine below_drewN ?_ _ | refine Below.setCell ?_ (by first | omega | (simp; done) | (simp; omega)) _ | refine Below.alloc ?_ (by first | omega | (simp; done) | (simp; omega)) _ | refine below_step (by assumption) (by first | omega | (simp; done) | (simp; omega)) ?_)
  · rw [show powR p q n m = err 2 from if_neg (fun h => h1 h.1)]
    have h3 : vld p q = false := by simpa using h1
    clear h1
    go_enter Try.func41, Try.ntmps41
    go_wp2_with (first | (go_at_call 19; refine (whole_any _ _ _).mono ?_; rintro e w1 ⟨rfl, hb1⟩; obtain ⟨hc1, hf1⟩ := bcell hb1; have hz := hb1.size; (try simp at hz); have z0 : w.heap.size < w1.heap.size := (by omega); have z1 : w.heap.size + 1 < w1.heap.size := (by omega); have z2 : w.heap.size + 2 < w1.heap.size := (by omega); clear hz) | (go_at_call 23; refine (valid_any _ _ _).mono ?_; rintro e w1 ⟨rfl, hb1⟩; obtain ⟨hc1, hf1⟩ := bcell hb1; have hz := hb1.size; (try simp at hz); have z0 : w.heap.size < w1.heap.size := (by omega); have z1 : w.heap.size + 1 < w1.heap.size := (by omega); have z2 : w.heap.size + 2 < w1.heap.size := (by omega); clear hz) | (go_at_call 48; refine (within_yes _ _ _ h4 h5 (by omega) (by omega)).mono ?_; rintro e wz ⟨rfl, rfl⟩))
    refine bodyPost_ret (v := .tuple #[.agg #[.int .i64 (0), .int .i64 (0)], .int .i64 (2)]) (by simp [results, Try.results41, go_sem, *]) rfl ?_
    refine ⟨rfl, ?_⟩
    repeat (first | exact Below.refl _ _ | refine below_drewN ?_ _ | refine Below.setCell ?_ (by first | omega | (simp; done) | (simp; omega)) _ | refine Below.alloc ?_ (by first | omega | (simp; done) | (simp; omega)) _ | refine below_step (by assumption) (by first | omega | (simp; done) | (simp; omega)) ?_)
end Go.Proofs.Ytpoljkgfaceniaa
