/- Contracts of layer 2: Parse and Scan. -/
import Derived.Test.YtmnfebgkpcjjjaaDoorNumF
namespace Go.Proofs.YtmnfebgkpcjjjaaDoor
open Go.RowKit M1 M2
set_option linter.unusedVariables false

theorem R3.eta (r : R3) (a b c : Int) (h1 : r.P = a) (h2 : r.Q = b) (h3 : r.E = c) : r = ⟨a, b, c⟩ := by subst h1 h2 h3; rfl
/-- What is answered: a number and an error. -/
def r3V (r : R3) : Value := .tuple #[.agg #[.int .i64 r.P, .int .i64 r.Q], .int .i64 r.E]
theorem cutB_any (s : ByteArray) (w : World) (hs : s.size ≤ 4000000000) (he : Env w) :
    Calls Tryd.prog 72 #[.string s, .string ⟨#[47]⟩] w fun e w' => e = .returned (.tuple #[.string (mkB (Lib.cut s.data.toList [47]).1), .string (mkB (Lib.cut s.data.toList [47]).2.1), .bool (Lib.cut s.data.toList [47]).2.2]) ∧ Below w.heap.size w w' :=
  (cut_any s w hs he).mono fun e w' ⟨h1, n, h2⟩ => ⟨h1, by rw [h2]; exact below_drewN (Below.refl _ _) n⟩
theorem cut_le (l : List UInt8) : (Lib.cut l [47]).1.length ≤ l.length ∧ (Lib.cut l [47]).2.1.length ≤ l.length := by
  unfold Lib.cut; split
  · simp; omega
  · simp

theorem frac_e1 (p q : ByteArray) (w : World) (hp : p.size ≤ 4000000000) (hq : q.size ≤ 4000000000) (kA1 : okd p.data.toList = false) :
    Calls Tryd.prog 73 #[.string p, .string q] w fun e w' => e = .returned (.tuple #[.agg #[.int .i64 (fracR p.data.toList q.data.toList).P, .int .i64 (fracR p.data.toList q.data.toList).Q], .int .i64 (fracR p.data.toList q.data.toList).E]) ∧ Below w.heap.size w w' := by
  rw [show fracR p.data.toList q.data.toList = err 4 by unfold fracR; rw [if_neg (by simp [kA1])]]
  have A1 : Hid (∀ w, Calls Tryd.prog 86 #[.string p] w fun e w' => e = .returned (.bool false) ∧ w = w') := Lib.hid fun w => (alld_any p w (by omega)).mono fun e w' ⟨h1, h2⟩ => ⟨by rw [h1, kA1], h2⟩
  clear kA1
  go_enter Tryd.func73, Tryd.ntmps73
  go_wp2_with (first | (go_at_call 86; (with_reducible refine (A1.out _).mono ?_); rintro e w' ⟨rfl, rfl⟩))
  refine bodyPost_ret (v := .tuple #[.agg #[.int .i64 0, .int .i64 0], .int .i64 4]) (by simp [results, Tryd.results73, go_sem, *]) rfl ?_
  refine ⟨rfl, ?_⟩
  repeat (first | exact Below.refl _ _ | refine below_drewN ?_ _ | refine Below.drew ?_ | refine Below.setCell ?_ (by first | omega | (simp; done) | (simp; omega)) _ | refine Below.alloc ?_ (by first | omega | (simp; done) | (simp; omega)) _ | refine below_step (by assumption) (by first | omega | (simp; done) | (simp; omega)) ?_)

theorem frac_e2 (p q : ByteArray) (w : World) (hp : p.size ≤ 4000000000) (hq : q.size ≤ 4000000000) (kA1 : okd p.data.toList = true) (kA2 : okd q.data.toList = false) :
    Calls Tryd.prog 73 #[.string p, .string q] w fun e w' => e = .returned (.tuple #[.agg #[.int .i64 (fracR p.data.toList q.data.toList).P, .int .i64 (fracR p.data.toList q.data.toList).Q], .int .i64 (fracR p.data.toList q.data.toList).E]) ∧ Below w.heap.size w w' := by
  rw [show fracR p.data.toList q.data.toList = err 4 by unfold fracR; rw [if_neg (by simp [kA2])]]
  have A1 : Hid (∀ w, Calls Tryd.prog 86 #[.string p] w fun e w' => e = .returned (.bool true) ∧ w = w') := Lib.hid fun w => (alld_any p w (by omega)).mono fun e w' ⟨h1, h2⟩ => ⟨by rw [h1, kA1], h2⟩
  have A2 : Hid (∀ w, Calls Tryd.prog 86 #[.string q] w fun e w' => e = .returned (.bool false) ∧ w = w') := Lib.hid fun w => (alld_any q w (by omega)).mono fun e w' ⟨h1, h2⟩ => ⟨by rw [h1, kA2], h2⟩
  clear kA1 kA2
  go_enter Tryd.func73, Tryd.ntmps73
  go_wp2_with (first | (go_at_call 86; (with_reducible refine (A1.out _).mono ?_); rintro e w' ⟨rfl, rfl⟩) | (go_at_call 86; (with_reducible refine (A2.out _).mono ?_); rintro e w' ⟨rfl, rfl⟩))
  refine bodyPost_ret (v := .tuple #[.agg #[.int .i64 0, .int .i64 0], .int .i64 4]) (by simp [results, Tryd.results73, go_sem, *]) rfl ?_
  refine ⟨rfl, ?_⟩
  repeat (first | exact Below.refl _ _ | refine below_drewN ?_ _ | refine Below.drew ?_ | refine Below.setCell ?_ (by first | omega | (simp; done) | (simp; omega)) _ | refine Below.alloc ?_ (by first | omega | (simp; done) | (simp; omega)) _ | refine below_step (by assumption) (by first | omega | (simp; done) | (simp; omega)) ?_)

theorem frac_a (p q : ByteArray) (w : World) (hp : p.size ≤ 4000000000) (hq : q.size ≤ 4000000000) (kA1 : okd p.data.toList = true) (kA2 : okd q.data.toList = true) (kJ1 : jn 10 0 p.data.toList = none) (kJ2 : jn 10 0 q.data.toList = none) :
    Calls Tryd.prog 73 #[.string p, .string q] w fun e w' => e = .returned (.tuple #[.agg #[.int .i64 (fracR p.data.toList q.data.toList).P, .int .i64 (fracR p.data.toList q.data.toList).Q], .int .i64 (fracR p.data.toList q.data.toList).E]) ∧ Below w.heap.size w w' := by
  rw [show fracR p.data.toList q.data.toList = err 6 by unfold fracR; rw [if_pos ⟨kA1, kA2⟩, kJ1, kJ2]; rfl]
  have A1 : Hid (∀ w, Calls Tryd.prog 86 #[.string p] w fun e w' => e = .returned (.bool true) ∧ w = w') := Lib.hid fun w => (alld_any p w (by omega)).mono fun e w' ⟨h1, h2⟩ => ⟨by rw [h1, kA1], h2⟩
  have A2 : Hid (∀ w, Calls Tryd.prog 86 #[.string q] w fun e w' => e = .returned (.bool true) ∧ w = w') := Lib.hid fun w => (alld_any q w (by omega)).mono fun e w' ⟨h1, h2⟩ => ⟨by rw [h1, kA2], h2⟩
  have J1 : Hid (∀ w, Calls Tryd.prog 87 #[.int .i64 0, .string p, .int .i64 10] w fun e w' => e = .returned (.tuple #[.int .i64 0, .bool false]) ∧ w = w') := Lib.hid fun w => join_none p 10 0 w (by omega) (by omega) (by omega) (by omega) (by omega) (okd_iff.1 kA1).2 kJ1
  have J2 : Hid (∀ w, Calls Tryd.prog 87 #[.int .i64 0, .string q, .int .i64 10] w fun e w' => e = .returned (.tuple #[.int .i64 0, .bool false]) ∧ w = w') := Lib.hid fun w => join_none q 10 0 w (by omega) (by omega) (by omega) (by omega) (by omega) (okd_iff.1 kA2).2 kJ2
  clear kA1 kA2 kJ1 kJ2
  go_enter Tryd.func73, Tryd.ntmps73
  go_wp2_with (first | (go_at_call 86; (with_reducible refine (A1.out _).mono ?_); rintro e w' ⟨rfl, rfl⟩) | (go_at_call 86; (with_reducible refine (A2.out _).mono ?_); rintro e w' ⟨rfl, rfl⟩) | (go_at_call 87; (with_reducible refine (J1.out _).mono ?_); rintro e w' ⟨rfl, rfl⟩) | (go_at_call 87; (with_reducible refine (J2.out _).mono ?_); rintro e w' ⟨rfl, rfl⟩))
  refine bodyPost_ret (v := .tuple #[.agg #[.int .i64 0, .int .i64 0], .int .i64 6]) (by simp [results, Tryd.results73, go_sem, *]) rfl ?_
  refine ⟨rfl, ?_⟩
  repeat (first | exact Below.refl _ _ | refine below_drewN ?_ _ | refine Below.drew ?_ | refine Below.setCell ?_ (by first | omega | (simp; done) | (simp; omega)) _ | refine Below.alloc ?_ (by first | omega | (simp; done) | (simp; omega)) _ | refine below_step (by assumption) (by first | omega | (simp; done) | (simp; omega)) ?_)

theorem frac_b (p q : ByteArray) (w : World) (hp : p.size ≤ 4000000000) (hq : q.size ≤ 4000000000) (kA1 : okd p.data.toList = true) (kA2 : okd q.data.toList = true) (kJ1 : jn 10 0 p.data.toList = none) (n : Int) (kJ2 : jn 10 0 q.data.toList = some n) :
    Calls Tryd.prog 73 #[.string p, .string q] w fun e w' => e = .returned (.tuple #[.agg #[.int .i64 (fracR p.data.toList q.data.toList).P, .int .i64 (fracR p.data.toList q.data.toList).Q], .int .i64 (fracR p.data.toList q.data.toList).E]) ∧ Below w.heap.size w w' := by
  rw [show fracR p.data.toList q.data.toList = err 6 by unfold fracR; rw [if_pos ⟨kA1, kA2⟩, kJ1, kJ2]; rfl]
  have A1 : Hid (∀ w, Calls Tryd.prog 86 #[.string p] w fun e w' => e = .returned (.bool true) ∧ w = w') := Lib.hid fun w => (alld_any p w (by omega)).mono fun e w' ⟨h1, h2⟩ => ⟨by rw [h1, kA1], h2⟩
  have A2 : Hid (∀ w, Calls Tryd.prog 86 #[.string q] w fun e w' => e = .returned (.bool true) ∧ w = w') := Lib.hid fun w => (alld_any q w (by omega)).mono fun e w' ⟨h1, h2⟩ => ⟨by rw [h1, kA2], h2⟩
  have J1 : Hid (∀ w, Calls Tryd.prog 87 #[.int .i64 0, .string p, .int .i64 10] w fun e w' => e = .returned (.tuple #[.int .i64 0, .bool false]) ∧ w = w') := Lib.hid fun w => join_none p 10 0 w (by omega) (by omega) (by omega) (by omega) (by omega) (okd_iff.1 kA1).2 kJ1
  have J2 : Hid (∀ w, Calls Tryd.prog 87 #[.int .i64 0, .string q, .int .i64 10] w fun e w' => e = .returned (.tuple #[.int .i64 n, .bool true]) ∧ w = w') := Lib.hid fun w => join_some q 10 0 n w (by omega) (by omega) (by omega) (by omega) (by omega) (okd_iff.1 kA2).2 kJ2
  clear kA1 kA2 kJ1 kJ2
  go_enter Tryd.func73, Tryd.ntmps73
  go_wp2_with (first | (go_at_call 86; (with_reducible refine (A1.out _).mono ?_); rintro e w' ⟨rfl, rfl⟩) | (go_at_call 86; (with_reducible refine (A2.out _).mono ?_); rintro e w' ⟨rfl, rfl⟩) | (go_at_call 87; (with_reducible refine (J1.out _).mono ?_); rintro e w' ⟨rfl, rfl⟩) | (go_at_call 87; (with_reducible refine (J2.out _).mono ?_); rintro e w' ⟨rfl, rfl⟩))
  refine bodyPost_ret (v := .tuple #[.agg #[.int .i64 0, .int .i64 0], .int .i64 6]) (by simp [results, Tryd.results73, go_sem, *]) rfl ?_
  refine ⟨rfl, ?_⟩
  repeat (first | exact Below.refl _ _ | refine below_drewN ?_ _ | refine Below.drew ?_ | refine Below.setCell ?_ (by first | omega | (simp; done) | (simp; omega)) _ | refine Below.alloc ?_ (by first | omega | (simp; done) | (simp; omega)) _ | refine below_step (by assumption) (by first | omega | (simp; done) | (simp; omega)) ?_)

theorem frac_c (p q : ByteArray) (w : World) (hp : p.size ≤ 4000000000) (hq : q.size ≤ 4000000000) (kA1 : okd p.data.toList = true) (kA2 : okd q.data.toList = true) (m : Int) (kJ1 : jn 10 0 p.data.toList = some m) (kJ2 : jn 10 0 q.data.toList = none) :
    Calls Tryd.prog 73 #[.string p, .string q] w fun e w' => e = .returned (.tuple #[.agg #[.int .i64 (fracR p.data.toList q.data.toList).P, .int .i64 (fracR p.data.toList q.data.toList).Q], .int .i64 (fracR p.data.toList q.data.toList).E]) ∧ Below w.heap.size w w' := by
  rw [show fracR p.data.toList q.data.toList = err 6 by unfold fracR; rw [if_pos ⟨kA1, kA2⟩, kJ1, kJ2]; rfl]
  have A1 : Hid (∀ w, Calls Tryd.prog 86 #[.string p] w fun e w' => e = .returned (.bool true) ∧ w = w') := Lib.hid fun w => (alld_any p w (by omega)).mono fun e w' ⟨h1, h2⟩ => ⟨by rw [h1, kA1], h2⟩
  have A2 : Hid (∀ w, Calls Tryd.prog 86 #[.string q] w fun e w' => e = .returned (.bool true) ∧ w = w') := Lib.hid fun w => (alld_any q w (by omega)).mono fun e w' ⟨h1, h2⟩ => ⟨by rw [h1, kA2], h2⟩
  have J1 : Hid (∀ w, Calls Tryd.prog 87 #[.int .i64 0, .string p, .int .i64 10] w fun e w' => e = .returned (.tuple #[.int .i64 m, .bool true]) ∧ w = w') := Lib.hid fun w => join_some p 10 0 m w (by omega) (by omega) (by omega) (by omega) (by omega) (okd_iff.1 kA1).2 kJ1
  have J2 : Hid (∀ w, Calls Tryd.prog 87 #[.int .i64 0, .string q, .int .i64 10] w fun e w' => e = .returned (.tuple #[.int .i64 0, .bool false]) ∧ w = w') := Lib.hid fun w => join_none q 10 0 w (by omega) (by omega) (by omega) (by omega) (by omega) (okd_iff.1 kA2).2 kJ2
  clear kA1 kA2 kJ1 kJ2
  go_enter Tryd.func73, Tryd.ntmps73
  go_wp2_with (first | (go_at_call 86; (with_reducible refine (A1.out _).mono ?_); rintro e w' ⟨rfl, rfl⟩) | (go_at_call 86; (with_reducible refine (A2.out _).mono ?_); rintro e w' ⟨rfl, rfl⟩) | (go_at_call 87; (with_reducible refine (J1.out _).mono ?_); rintro e w' ⟨rfl, rfl⟩) | (go_at_call 87; (with_reducible refine (J2.out _).mono ?_); rintro e w' ⟨rfl, rfl⟩))
  refine bodyPost_ret (v := .tuple #[.agg #[.int .i64 0, .int .i64 0], .int .i64 6]) (by simp [results, Tryd.results73, go_sem, *]) rfl ?_
  refine ⟨rfl, ?_⟩
  repeat (first | exact Below.refl _ _ | refine below_drewN ?_ _ | refine Below.drew ?_ | refine Below.setCell ?_ (by first | omega | (simp; done) | (simp; omega)) _ | refine Below.alloc ?_ (by first | omega | (simp; done) | (simp; omega)) _ | refine below_step (by assumption) (by first | omega | (simp; done) | (simp; omega)) ?_)

theorem frac_d (p q : ByteArray) (w : World) (hp : p.size ≤ 4000000000) (hq : q.size ≤ 4000000000) (kA1 : okd p.data.toList = true) (kA2 : okd q.data.toList = true) (m : Int) (kJ1 : jn 10 0 p.data.toList = some m) (kJ2 : jn 10 0 q.data.toList = some 0) :
    Calls Tryd.prog 73 #[.string p, .string q] w fun e w' => e = .returned (.tuple #[.agg #[.int .i64 (fracR p.data.toList q.data.toList).P, .int .i64 (fracR p.data.toList q.data.toList).Q], .int .i64 (fracR p.data.toList q.data.toList).E]) ∧ Below w.heap.size w w' := by
  rw [show fracR p.data.toList q.data.toList = err 6 by unfold fracR; rw [if_pos ⟨kA1, kA2⟩, kJ1, kJ2]; rfl]
  have A1 : Hid (∀ w, Calls Tryd.prog 86 #[.string p] w fun e w' => e = .returned (.bool true) ∧ w = w') := Lib.hid fun w => (alld_any p w (by omega)).mono fun e w' ⟨h1, h2⟩ => ⟨by rw [h1, kA1], h2⟩
  have A2 : Hid (∀ w, Calls Tryd.prog 86 #[.string q] w fun e w' => e = .returned (.bool true) ∧ w = w') := Lib.hid fun w => (alld_any q w (by omega)).mono fun e w' ⟨h1, h2⟩ => ⟨by rw [h1, kA2], h2⟩
  have J1 : Hid (∀ w, Calls Tryd.prog 87 #[.int .i64 0, .string p, .int .i64 10] w fun e w' => e = .returned (.tuple #[.int .i64 m, .bool true]) ∧ w = w') := Lib.hid fun w => join_some p 10 0 m w (by omega) (by omega) (by omega) (by omega) (by omega) (okd_iff.1 kA1).2 kJ1
  have J2 : Hid (∀ w, Calls Tryd.prog 87 #[.int .i64 0, .string q, .int .i64 10] w fun e w' => e = .returned (.tuple #[.int .i64 0, .bool true]) ∧ w = w') := Lib.hid fun w => join_some q 10 0 0 w (by omega) (by omega) (by omega) (by omega) (by omega) (okd_iff.1 kA2).2 kJ2
  clear kA1 kA2 kJ1 kJ2
  go_enter Tryd.func73, Tryd.ntmps73
  go_wp2_with (first | (go_at_call 86; (with_reducible refine (A1.out _).mono ?_); rintro e w' ⟨rfl, rfl⟩) | (go_at_call 86; (with_reducible refine (A2.out _).mono ?_); rintro e w' ⟨rfl, rfl⟩) | (go_at_call 87; (with_reducible refine (J1.out _).mono ?_); rintro e w' ⟨rfl, rfl⟩) | (go_at_call 87; (with_reducible refine (J2.out _).mono ?_); rintro e w' ⟨rfl, rfl⟩))
  refine bodyPost_ret (v := .tuple #[.agg #[.int .i64 0, .int .i64 0], .int .i64 6]) (by simp [results, Tryd.results73, go_sem, *]) rfl ?_
  refine ⟨rfl, ?_⟩
  repeat (first | exact Below.refl _ _ | refine below_drewN ?_ _ | refine Below.drew ?_ | refine Below.setCell ?_ (by first | omega | (simp; done) | (simp; omega)) _ | refine Below.alloc ?_ (by first | omega | (simp; done) | (simp; omega)) _ | refine below_step (by assumption) (by first | omega | (simp; done) | (simp; omega)) ?_)

theorem frac_e (p q : ByteArray) (w : World) (hp : p.size ≤ 4000000000) (hq : q.size ≤ 4000000000) (kA1 : okd p.data.toList = true) (kA2 : okd q.data.toList = true) (m : Int) (kJ1 : jn 10 0 p.data.toList = some m) (n : Int) (kJ2 : jn 10 0 q.data.toList = some n) (h0 : (n == 0) = false) :
    Calls Tryd.prog 73 #[.string p, .string q] w fun e w' => e = .returned (.tuple #[.agg #[.int .i64 (fracR p.data.toList q.data.toList).P, .int .i64 (fracR p.data.toList q.data.toList).Q], .int .i64 (fracR p.data.toList q.data.toList).E]) ∧ Below w.heap.size w w' := by
  rw [show fracR p.data.toList q.data.toList = makeR m n by unfold fracR; rw [if_pos ⟨kA1, kA2⟩, kJ1, kJ2]; simp only [fracV]; rw [if_neg (by simpa using h0)]]
  have A1 : Hid (∀ w, Calls Tryd.prog 86 #[.string p] w fun e w' => e = .returned (.bool true) ∧ w = w') := Lib.hid fun w => (alld_any p w (by omega)).mono fun e w' ⟨h1, h2⟩ => ⟨by rw [h1, kA1], h2⟩
  have A2 : Hid (∀ w, Calls Tryd.prog 86 #[.string q] w fun e w' => e = .returned (.bool true) ∧ w = w') := Lib.hid fun w => (alld_any q w (by omega)).mono fun e w' ⟨h1, h2⟩ => ⟨by rw [h1, kA2], h2⟩
  have J1 : Hid (∀ w, Calls Tryd.prog 87 #[.int .i64 0, .string p, .int .i64 10] w fun e w' => e = .returned (.tuple #[.int .i64 m, .bool true]) ∧ w = w') := Lib.hid fun w => join_some p 10 0 m w (by omega) (by omega) (by omega) (by omega) (by omega) (okd_iff.1 kA1).2 kJ1
  have J2 : Hid (∀ w, Calls Tryd.prog 87 #[.int .i64 0, .string q, .int .i64 10] w fun e w' => e = .returned (.tuple #[.int .i64 n, .bool true]) ∧ w = w') := Lib.hid fun w => join_some q 10 0 n w (by omega) (by omega) (by omega) (by omega) (by omega) (okd_iff.1 kA2).2 kJ2
  clear kA1 kA2 kJ1 kJ2
  go_enter Tryd.func73, Tryd.ntmps73
  go_wp2_with (first | (go_at_call 86; (with_reducible refine (A1.out _).mono ?_); rintro e w' ⟨rfl, rfl⟩) | (go_at_call 86; (with_reducible refine (A2.out _).mono ?_); rintro e w' ⟨rfl, rfl⟩) | (go_at_call 87; (with_reducible refine (J1.out _).mono ?_); rintro e w' ⟨rfl, rfl⟩) | (go_at_call 87; (with_reducible refine (J2.out _).mono ?_); rintro e w' ⟨rfl, rfl⟩) | (go_at_call 88; refine (make_any _ _ _).mono ?_; rintro e w1 ⟨rfl, hb1⟩; obtain ⟨hc1, hf1⟩ := bcell hb1; have hz := hb1.size; (try simp at hz); (try (have z1_0 : w.heap.size < w1.heap.size := (by omega))); (try (have z1_1 : w.heap.size + 1 < w1.heap.size := (by omega))); clear hz; (try (have k1a : w1.cell? ⟨w.heap.size, 0, none⟩ = some (.int .i64 0) := by go_simp)); (try (have k1b : w1.cell? ⟨w.heap.size, 1, none⟩ = some (.int .i64 0) := by go_simp))))
  refine bodyPost_ret (v := .tuple #[.agg #[.int .i64 (makeR m n).P, .int .i64 (makeR m n).Q], .int .i64 (makeR m n).E]) (by simp [results, Tryd.results73, go_sem, *]) rfl ?_
  refine ⟨rfl, ?_⟩
  repeat (first | exact Below.refl _ _ | refine below_drewN ?_ _ | refine Below.drew ?_ | refine Below.setCell ?_ (by first | omega | (simp; done) | (simp; omega)) _ | refine Below.alloc ?_ (by first | omega | (simp; done) | (simp; omega)) _ | refine below_step (by assumption) (by first | omega | (simp; done) | (simp; omega)) ?_)

theorem frac_any (p q : ByteArray) (w : World) (hp : p.size ≤ 4000000000) (hq : q.size ≤ 4000000000) :
    Calls Tryd.prog 73 #[.string p, .string q] w fun e w' => e = .returned (.tuple #[.agg #[.int .i64 (fracR p.data.toList q.data.toList).P, .int .i64 (fracR p.data.toList q.data.toList).Q], .int .i64 (fracR p.data.toList q.data.toList).E]) ∧ Below w.heap.size w w' := by
  cases kA1 : okd p.data.toList with
  | false => exact frac_e1 p q w hp hq kA1
  | true =>
    cases kA2 : okd q.data.toList with
    | false => exact frac_e2 p q w hp hq kA1 kA2
    | true =>
      cases kJ1 : jn 10 0 p.data.toList with
      | none =>
        cases kJ2 : jn 10 0 q.data.toList with
        | none => exact frac_a p q w hp hq kA1 kA2 kJ1 kJ2
        | some n => exact frac_b p q w hp hq kA1 kA2 kJ1 n kJ2
      | some m =>
        cases kJ2 : jn 10 0 q.data.toList with
        | none => exact frac_c p q w hp hq kA1 kA2 m kJ1 kJ2
        | some n =>
          by_cases h0 : n = 0
          · exact frac_d p q w hp hq kA1 kA2 m kJ1 (by rw [kJ2, h0])
          · exact frac_e p q w hp hq kA1 kA2 m kJ1 n kJ2 (by simpa using h0)

/-- measure, told by variables. -/
theorem measure_fact (s : ByteArray) (hs : s.size ≤ 4000000000) : ∃ (B : Int) (wh bh : ByteArray) (f : Nat), meas s.data.toList = ⟨B, wh.data.toList, bh.data.toList, f⟩ ∧ f ≤ s.size ∧ numR ⟨B, wh.data.toList, bh.data.toList, 0⟩ = numR (meas s.data.toList) ∧
    (Hid (∀ w, Calls Tryd.prog 74 #[.string s] w fun e w' => e = .returned (.agg #[.int .i64 B, .string wh, .string bh, .int .i64 (f : Int)]) ∧ Below w.heap.size w w')) ∧
    (Hid (∀ w, Calls Tryd.prog 75 #[.agg #[.int .i64 B, .string wh, .string bh, .int .i64 (f : Int)]] w fun e w' => e = .returned (.tuple #[.agg #[.int .i64 (numR (meas s.data.toList)).P, .int .i64 (numR (meas s.data.toList)).Q], .int .i64 (numR (meas s.data.toList)).E]) ∧ Below w.heap.size w w')) := by
  obtain ⟨h1, h2, h3, h4⟩ := meas_wf s.data.toList
  rw [list_size] at h4
  have hw : (meas s.data.toList).whole.length ≤ 4000000000 ∧ (meas s.data.toList).behind.length ≤ 4000000000 := by
    unfold meas; repeat' split
    all_goals (simp; omega)
  refine ⟨(meas s.data.toList).B, mkB (meas s.data.toList).whole, mkB (meas s.data.toList).behind, (meas s.data.toList).fin, by rw [mkB_list, mkB_list], h4, by rw [mkB_list, mkB_list]; rfl, Lib.hid fun w => measure_any s w hs, Lib.hid fun w => ?_⟩
  have := number_any (meas s.data.toList).B (mkB (meas s.data.toList).whole) (mkB (meas s.data.toList).behind) ((meas s.data.toList).fin : Int) w h1 (by rw [mkB_size]; exact hw.1) (by rw [mkB_size]; exact hw.2) (by rw [mkB_list]; exact h2) (by rw [mkB_list]; exact h3)
  rw [mkB_list, mkB_list] at this
  exact this

theorem uns_frac (s : ByteArray) (w : World) (hs : s.size ≤ 4000000000) (he : Env w) (hc : (Lib.cut s.data.toList [47]).2.2 = true) :
    Calls Tryd.prog 61 #[.string s] w fun e w' => e = .returned (.tuple #[.agg #[.int .i64 (unsR s.data.toList).P, .int .i64 (unsR s.data.toList).Q], .int .i64 (unsR s.data.toList).E]) ∧ Below w.heap.size w w' := by
  have hr : unsR s.data.toList = fracR (Lib.cut s.data.toList [47]).1 (Lib.cut s.data.toList [47]).2.1 := if_pos hc
  obtain ⟨hl1, hl2⟩ := cut_le s.data.toList
  rw [list_size] at hl1 hl2
  have C1 : Hid (∀ w, Env w → Calls Tryd.prog 72 #[.string s, .string ⟨#[47]⟩] w fun e w' => e = .returned (.tuple #[.string (mkB (Lib.cut s.data.toList [47]).1), .string (mkB (Lib.cut s.data.toList [47]).2.1), .bool true]) ∧ Below w.heap.size w w') :=
    Lib.hid fun w he => (cutB_any s w hs he).mono fun e w' ⟨h1, h2⟩ => ⟨by rw [h1, hc], h2⟩
  have F1 : Hid (∀ w, Calls Tryd.prog 73 #[.string (mkB (Lib.cut s.data.toList [47]).1), .string (mkB (Lib.cut s.data.toList [47]).2.1)] w fun e w' => e = .returned (.tuple #[.agg #[.int .i64 (unsR s.data.toList).P, .int .i64 (unsR s.data.toList).Q], .int .i64 (unsR s.data.toList).E]) ∧ Below w.heap.size w w') :=
    Lib.hid fun w => (by have := frac_any (mkB (Lib.cut s.data.toList [47]).1) (mkB (Lib.cut s.data.toList [47]).2.1) w (by rw [mkB_size]; omega) (by rw [mkB_size]; omega); rw [mkB_list, mkB_list] at this; rw [hr]; exact this)
  clear hr hc hl1 hl2
  generalize unsR s.data.toList = R at *
  generalize mkB (Lib.cut s.data.toList [47]).1 = p at *
  generalize mkB (Lib.cut s.data.toList [47]).2.1 = q at *
  have HE := Lib.hid (he.alloc (.cells #[.int .i64 0, .int .i64 0] 23))
  go_enter Tryd.func61, Tryd.ntmps61
  go_wp2_with (first | (go_at_call 72; (with_reducible refine (C1.out _ HE.out).mono ?_); rintro e w1 ⟨rfl, hb1⟩; obtain ⟨hc1, hf1⟩ := bcell hb1; have hz := hb1.size; (try simp at hz); (try (have z1_0 : w.heap.size < w1.heap.size := (by omega))); (try (have z1_1 : w.heap.size + 1 < w1.heap.size := (by omega))); clear hz; (try (have k1a : w1.cell? ⟨w.heap.size, 0, none⟩ = some (.int .i64 0) := by go_simp)); (try (have k1b : w1.cell? ⟨w.heap.size, 1, none⟩ = some (.int .i64 0) := by go_simp))) | (go_at_call 73; (with_reducible refine (F1.out _).mono ?_); rintro e w2 ⟨rfl, hb2⟩; obtain ⟨hc2, hf2⟩ := bcell hb2; have hz := hb2.size; (try simp at hz); (try (have z2_0 : w.heap.size < w2.heap.size := (by omega))); (try (have z2_1 : w.heap.size + 1 < w2.heap.size := (by omega))); clear hz; (try (have k2a : w2.cell? ⟨w.heap.size, 0, none⟩ = some (.int .i64 0) := by go_simp)); (try (have k2b : w2.cell? ⟨w.heap.size, 1, none⟩ = some (.int .i64 0) := by go_simp))))
  refine bodyPost_ret (v := .tuple #[.agg #[.int .i64 R.P, .int .i64 R.Q], .int .i64 R.E]) (by simp [results, Tryd.results61, go_sem, *]) rfl ?_
  refine ⟨rfl, ?_⟩
  repeat (first | exact Below.refl _ _ | refine below_drewN ?_ _ | refine Below.drew ?_ | refine Below.setCell ?_ (by first | omega | (simp; done) | (simp; omega)) _ | refine Below.alloc ?_ (by first | omega | (simp; done) | (simp; omega)) _ | refine below_step (by assumption) (by first | omega | (simp; done) | (simp; omega)) ?_)

theorem uns_e1 (s : ByteArray) (w : World) (hs : s.size ≤ 4000000000) (he : Env w) (hc : (Lib.cut s.data.toList [47]).2.2 = false) (h0 : (meas s.data.toList).fin = 0) :
    Calls Tryd.prog 61 #[.string s] w fun e w' => e = .returned (.tuple #[.agg #[.int .i64 (unsR s.data.toList).P, .int .i64 (unsR s.data.toList).Q], .int .i64 (unsR s.data.toList).E]) ∧ Below w.heap.size w w' := by
  have hr : unsR s.data.toList = soleR s.data.toList := if_neg (by simp [hc])
  obtain ⟨B, wh, bh, f, hm, hf, hn, M1, N1⟩ := measure_fact s hs
  have hmf : (meas s.data.toList).fin = f := by rw [hm]
  rw [hmf] at h0
  have C1 : Hid (∀ w, Env w → Calls Tryd.prog 72 #[.string s, .string ⟨#[47]⟩] w fun e w' => e = .returned (.tuple #[.string (mkB (Lib.cut s.data.toList [47]).1), .string (mkB (Lib.cut s.data.toList [47]).2.1), .bool false]) ∧ Below w.heap.size w w') :=
    Lib.hid fun w he => (cutB_any s w hs he).mono fun e w' ⟨h1, h2⟩ => ⟨by rw [h1, hc], h2⟩
  rw [hr, show soleR s.data.toList = err 4 by unfold soleR; rw [if_pos (.inl (by rw [hmf]; exact h0))]]
  subst h0
  clear hr
  clear hm hn hc hmf
  generalize mkB (Lib.cut s.data.toList [47]).1 = p at *
  generalize mkB (Lib.cut s.data.toList [47]).2.1 = q at *
  have HE := Lib.hid (he.alloc (.cells #[.int .i64 0, .int .i64 0] 23))
  go_enter Tryd.func61, Tryd.ntmps61
  go_wp2_with (first | (go_at_call 72; (with_reducible refine (C1.out _ HE.out).mono ?_); rintro e w1 ⟨rfl, hb1⟩; obtain ⟨hc1, hf1⟩ := bcell hb1; have hz := hb1.size; (try simp at hz); (try (have z1_0 : w.heap.size < w1.heap.size := (by omega))); (try (have z1_1 : w.heap.size + 1 < w1.heap.size := (by omega))); clear hz; (try (have k1a : w1.cell? ⟨w.heap.size, 0, none⟩ = some (.int .i64 0) := by go_simp)); (try (have k1b : w1.cell? ⟨w.heap.size, 1, none⟩ = some (.int .i64 0) := by go_simp))) | (go_at_call 74; (with_reducible refine (M1.out _).mono ?_); rintro e w2 ⟨rfl, hb2⟩; obtain ⟨hc2, hf2⟩ := bcell hb2; have hz := hb2.size; (try simp at hz); (try (have z2_0 : w.heap.size < w2.heap.size := (by omega))); (try (have z2_1 : w.heap.size + 1 < w2.heap.size := (by omega))); (try (have z2_2 : w.heap.size + 2 < w2.heap.size := (by omega))); clear hz; (try (have k2a : w2.cell? ⟨w.heap.size, 0, none⟩ = some (.int .i64 0) := by go_simp)); (try (have k2b : w2.cell? ⟨w.heap.size, 1, none⟩ = some (.int .i64 0) := by go_simp))))
  refine bodyPost_ret (v := .tuple #[.agg #[.int .i64 0, .int .i64 0], .int .i64 4]) (by simp [results, Tryd.results61, go_sem, *]) rfl ?_
  refine ⟨rfl, ?_⟩
  repeat (first | exact Below.refl _ _ | refine below_drewN ?_ _ | refine Below.drew ?_ | refine Below.setCell ?_ (by first | omega | (simp; done) | (simp; omega)) _ | refine Below.alloc ?_ (by first | omega | (simp; done) | (simp; omega)) _ | refine below_step (by assumption) (by first | omega | (simp; done) | (simp; omega)) ?_)

theorem uns_e2 (s : ByteArray) (w : World) (hs : s.size ≤ 4000000000) (he : Env w) (hc : (Lib.cut s.data.toList [47]).2.2 = false) (h0 : (meas s.data.toList).fin ≠ 0) (h1 : (meas s.data.toList).fin ≠ s.size) :
    Calls Tryd.prog 61 #[.string s] w fun e w' => e = .returned (.tuple #[.agg #[.int .i64 (unsR s.data.toList).P, .int .i64 (unsR s.data.toList).Q], .int .i64 (unsR s.data.toList).E]) ∧ Below w.heap.size w w' := by
  have hr : unsR s.data.toList = soleR s.data.toList := if_neg (by simp [hc])
  obtain ⟨B, wh, bh, f, hm, hf, hn, M1, N1⟩ := measure_fact s hs
  have hmf : (meas s.data.toList).fin = f := by rw [hm]
  rw [hmf] at h0
  have C1 : Hid (∀ w, Env w → Calls Tryd.prog 72 #[.string s, .string ⟨#[47]⟩] w fun e w' => e = .returned (.tuple #[.string (mkB (Lib.cut s.data.toList [47]).1), .string (mkB (Lib.cut s.data.toList [47]).2.1), .bool false]) ∧ Below w.heap.size w w') :=
    Lib.hid fun w he => (cutB_any s w hs he).mono fun e w' ⟨h1, h2⟩ => ⟨by rw [h1, hc], h2⟩
  rw [hmf] at h1
  rw [hr, show soleR s.data.toList = err 4 by unfold soleR; rw [if_pos (.inr (by rw [hmf, list_size]; exact h1))]]
  have g0 : ((f : Int) == 0) = false := by rw [beq_eq_false_iff_ne]; omega
  have g1 : ((f : Int) != (s.size : Int)) = true := by rw [bne_iff_ne]; omega
  clear hr h0 h1
  clear hm hn hc hmf
  generalize mkB (Lib.cut s.data.toList [47]).1 = p at *
  generalize mkB (Lib.cut s.data.toList [47]).2.1 = q at *
  have HE := Lib.hid (he.alloc (.cells #[.int .i64 0, .int .i64 0] 23))
  go_enter Tryd.func61, Tryd.ntmps61
  go_wp2_with (first | (go_at_call 72; (with_reducible refine (C1.out _ HE.out).mono ?_); rintro e w1 ⟨rfl, hb1⟩; obtain ⟨hc1, hf1⟩ := bcell hb1; have hz := hb1.size; (try simp at hz); (try (have z1_0 : w.heap.size < w1.heap.size := (by omega))); (try (have z1_1 : w.heap.size + 1 < w1.heap.size := (by omega))); clear hz; (try (have k1a : w1.cell? ⟨w.heap.size, 0, none⟩ = some (.int .i64 0) := by go_simp)); (try (have k1b : w1.cell? ⟨w.heap.size, 1, none⟩ = some (.int .i64 0) := by go_simp))) | (go_at_call 74; (with_reducible refine (M1.out _).mono ?_); rintro e w2 ⟨rfl, hb2⟩; obtain ⟨hc2, hf2⟩ := bcell hb2; have hz := hb2.size; (try simp at hz); (try (have z2_0 : w.heap.size < w2.heap.size := (by omega))); (try (have z2_1 : w.heap.size + 1 < w2.heap.size := (by omega))); (try (have z2_2 : w.heap.size + 2 < w2.heap.size := (by omega))); clear hz; (try (have k2a : w2.cell? ⟨w.heap.size, 0, none⟩ = some (.int .i64 0) := by go_simp)); (try (have k2b : w2.cell? ⟨w.heap.size, 1, none⟩ = some (.int .i64 0) := by go_simp))))
  refine bodyPost_ret (v := .tuple #[.agg #[.int .i64 0, .int .i64 0], .int .i64 4]) (by simp [results, Tryd.results61, go_sem, *]) rfl ?_
  refine ⟨rfl, ?_⟩
  repeat (first | exact Below.refl _ _ | refine below_drewN ?_ _ | refine Below.drew ?_ | refine Below.setCell ?_ (by first | omega | (simp; done) | (simp; omega)) _ | refine Below.alloc ?_ (by first | omega | (simp; done) | (simp; omega)) _ | refine below_step (by assumption) (by first | omega | (simp; done) | (simp; omega)) ?_)

theorem uns_n (s : ByteArray) (w : World) (hs : s.size ≤ 4000000000) (he : Env w) (hc : (Lib.cut s.data.toList [47]).2.2 = false) (h0 : (meas s.data.toList).fin ≠ 0) (h1 : (meas s.data.toList).fin = s.size) :
    Calls Tryd.prog 61 #[.string s] w fun e w' => e = .returned (.tuple #[.agg #[.int .i64 (unsR s.data.toList).P, .int .i64 (unsR s.data.toList).Q], .int .i64 (unsR s.data.toList).E]) ∧ Below w.heap.size w w' := by
  have hr : unsR s.data.toList = soleR s.data.toList := if_neg (by simp [hc])
  obtain ⟨B, wh, bh, f, hm, hf, hn, M1, N1⟩ := measure_fact s hs
  have hmf : (meas s.data.toList).fin = f := by rw [hm]
  rw [hmf] at h0
  have C1 : Hid (∀ w, Env w → Calls Tryd.prog 72 #[.string s, .string ⟨#[47]⟩] w fun e w' => e = .returned (.tuple #[.string (mkB (Lib.cut s.data.toList [47]).1), .string (mkB (Lib.cut s.data.toList [47]).2.1), .bool false]) ∧ Below w.heap.size w w') :=
    Lib.hid fun w he => (cutB_any s w hs he).mono fun e w' ⟨h1, h2⟩ => ⟨by rw [h1, hc], h2⟩
  rw [hmf] at h1
  rw [hr, show soleR s.data.toList = numR (meas s.data.toList) by unfold soleR; rw [if_neg (by rw [hmf, list_size]; omega)]]
  have g0 : ((f : Int) == 0) = false := by rw [beq_eq_false_iff_ne]; omega
  have g1 : ((f : Int) != (s.size : Int)) = false := by rw [bne_eq_false_iff_eq]; omega
  clear hr h0 h1
  generalize numR (meas s.data.toList) = R at *
  clear hm hn hc hmf
  generalize mkB (Lib.cut s.data.toList [47]).1 = p at *
  generalize mkB (Lib.cut s.data.toList [47]).2.1 = q at *
  have HE := Lib.hid (he.alloc (.cells #[.int .i64 0, .int .i64 0] 23))
  go_enter Tryd.func61, Tryd.ntmps61
  go_wp2_with (first | (go_at_call 72; (with_reducible refine (C1.out _ HE.out).mono ?_); rintro e w1 ⟨rfl, hb1⟩; obtain ⟨hc1, hf1⟩ := bcell hb1; have hz := hb1.size; (try simp at hz); (try (have z1_0 : w.heap.size < w1.heap.size := (by omega))); (try (have z1_1 : w.heap.size + 1 < w1.heap.size := (by omega))); clear hz; (try (have k1a : w1.cell? ⟨w.heap.size, 0, none⟩ = some (.int .i64 0) := by go_simp)); (try (have k1b : w1.cell? ⟨w.heap.size, 1, none⟩ = some (.int .i64 0) := by go_simp))) | (go_at_call 74; (with_reducible refine (M1.out _).mono ?_); rintro e w2 ⟨rfl, hb2⟩; obtain ⟨hc2, hf2⟩ := bcell hb2; have hz := hb2.size; (try simp at hz); (try (have z2_0 : w.heap.size < w2.heap.size := (by omega))); (try (have z2_1 : w.heap.size + 1 < w2.heap.size := (by omega))); (try (have z2_2 : w.heap.size + 2 < w2.heap.size := (by omega))); clear hz; (try (have k2a : w2.cell? ⟨w.heap.size, 0, none⟩ = some (.int .i64 0) := by go_simp)); (try (have k2b : w2.cell? ⟨w.heap.size, 1, none⟩ = some (.int .i64 0) := by go_simp))) | (go_at_call 75; (with_reducible refine (N1.out _).mono ?_); rintro e w3 ⟨rfl, hb3⟩; obtain ⟨hc3, hf3⟩ := bcell hb3; have hz := hb3.size; (try simp at hz); (try (have z3_0 : w.heap.size < w3.heap.size := (by omega))); (try (have z3_1 : w.heap.size + 1 < w3.heap.size := (by omega))); (try (have z3_2 : w.heap.size + 2 < w3.heap.size := (by omega))); clear hz; (try (have k3a : w3.cell? ⟨w.heap.size, 0, none⟩ = some (.int .i64 0) := by go_simp)); (try (have k3b : w3.cell? ⟨w.heap.size, 1, none⟩ = some (.int .i64 0) := by go_simp))))
  refine bodyPost_ret (v := .tuple #[.agg #[.int .i64 R.P, .int .i64 R.Q], .int .i64 R.E]) (by simp [results, Tryd.results61, go_sem, *]) rfl ?_
  refine ⟨rfl, ?_⟩
  repeat (first | exact Below.refl _ _ | refine below_drewN ?_ _ | refine Below.drew ?_ | refine Below.setCell ?_ (by first | omega | (simp; done) | (simp; omega)) _ | refine Below.alloc ?_ (by first | omega | (simp; done) | (simp; omega)) _ | refine below_step (by assumption) (by first | omega | (simp; done) | (simp; omega)) ?_)

theorem uns_any (s : ByteArray) (w : World) (hs : s.size ≤ 4000000000) (he : Env w) :
    Calls Tryd.prog 61 #[.string s] w fun e w' => e = .returned (.tuple #[.agg #[.int .i64 (unsR s.data.toList).P, .int .i64 (unsR s.data.toList).Q], .int .i64 (unsR s.data.toList).E]) ∧ Below w.heap.size w w' := by
  cases hc : (Lib.cut s.data.toList [47]).2.2 with
  | true => exact uns_frac s w hs he hc
  | false =>
    by_cases h0 : (meas s.data.toList).fin = 0
    · exact uns_e1 s w hs he hc h0
    · by_cases h1 : (meas s.data.toList).fin = s.size
      · exact uns_n s w hs he hc h0 h1
      · exact uns_e2 s w hs he hc h0 h1
end Go.Proofs.YtmnfebgkpcjjjaaDoor
