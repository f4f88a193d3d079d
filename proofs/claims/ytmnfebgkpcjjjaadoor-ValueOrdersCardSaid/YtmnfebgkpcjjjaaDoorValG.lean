/- Layer 11: what every law begins with. -/
import Derived.Test.YtmnfebgkpcjjjaaDoorValF
import Derived.Test.YtmnfebgkpcjjjaaDoorValC
import Derived.ChangeArms
namespace Go.Proofs.YtmnfebgkpcjjjaaDoor
open Go.ChangeShapes Go.WideShapes Go.ChangeAt Go.RowKit Go.Joins M1 M2
set_option linter.unusedVariables false
theorem cellsVal : Tryd.prog.cellsOf 25 = 5 := by kernel_rfl
theorem cellsIntU : Tryd.prog.cellsOf 3 = 1 := by kernel_rfl
theorem cellsStrU : Tryd.prog.cellsOf 9 = 1 := by kernel_rfl
theorem len5 {α : Type} {l : List α} (h : l.length = 5) : ∃ a b c d e, l = [a, b, c, d, e] := by
  match l, h with
  | [a, b, c, d, e], _ => exact ⟨a, b, c, d, e, rfl⟩
theorem len4u {α : Type} {l : List α} (h : l.length = 4) : ∃ a b c d, l = [a, b, c, d] := by
  match l, h with
  | [a, b, c, d], _ => exact ⟨a, b, c, d, rfl⟩
theorem len2u {α : Type} {l : List α} (h : l.length = 2) : ∃ a b, l = [a, b] := by
  match l, h with
  | [a, b], _ => exact ⟨a, b, rfl⟩
def valD {H : Type} (k p q : Int) (s : ByteArray) (r : Int) : DataW H := .agg [.lit (.int .i64 k), .agg [.lit (.int .i64 p), .lit (.int .i64 q)], .lit (.string s.data.toList), .lit (.int .i64 r)]
theorem trod_val {H : Type} {enc : TypeId × Value → H} {W : World} {base : Nat} {sp : Nat → Bool} {held : Bool} {fuel : Nat} {cs : List Value} {x : DataW H × List MemPlace} (h : DataW.trod enc Tryd.prog W base sp held fuel 25 cs = some x) :
    ∃ k p q s r, cs = [.int .i64 k, .int .i64 p, .int .i64 q, .string s, .int .i64 r] ∧ x = (valD k p q s r, []) ∧ (Lit.int .i64 k).wf = true ∧ (Lit.int .i64 p).wf = true ∧ (Lit.int .i64 q).wf = true ∧ s.size ≤ maxLen ∧ (Lit.int .i64 r).wf = true := by
  obtain ⟨xs, n', _, rfl, hlen, hxl, hf⟩ := DataW.trod_struct Tryd.underlying25 h
  rw [cellsVal] at hlen
  have hxl4 : xs.length = 4 := hxl
  obtain ⟨v0, v1, v2, v3, v4, rfl⟩ := len5 hlen
  obtain ⟨y0, y1, y2, y3, rfl⟩ := len4u hxl4
  have f0 : DataW.trod enc Tryd.prog W base sp held n' 3 (([v0, v1, v2, v3, v4].drop 0).take (Tryd.prog.cellsOf 3)) = some y0 := hf 0 _ rfl
  have f1 : DataW.trod enc Tryd.prog W base sp held n' 23 (([v0, v1, v2, v3, v4].drop 1).take (Tryd.prog.cellsOf 23)) = some y1 := hf 1 _ rfl
  have f2 : DataW.trod enc Tryd.prog W base sp held n' 9 (([v0, v1, v2, v3, v4].drop 3).take (Tryd.prog.cellsOf 9)) = some y2 := hf 2 _ rfl
  have f3 : DataW.trod enc Tryd.prog W base sp held n' 3 (([v0, v1, v2, v3, v4].drop 4).take (Tryd.prog.cellsOf 3)) = some y3 := hf 3 _ rfl
  rw [cellsIntU] at f0 f3
  rw [cellsStrU] at f2
  rw [cellsNum] at f1
  obtain ⟨zs, n2, _, rfl, _, hzl, hg⟩ := DataW.trod_struct Tryd.underlying23 f1
  have hzl2 : zs.length = 2 := hzl
  obtain ⟨z0, z1, rfl⟩ := len2u hzl2
  simp only [List.drop_succ_cons, List.drop_zero, List.take_succ_cons, List.take_zero] at hg
  have g0 : DataW.trod enc Tryd.prog W base sp held n2 3 (([v1, v2].drop 0).take (Tryd.prog.cellsOf 3)) = some z0 := hg 0 _ rfl
  have g1 : DataW.trod enc Tryd.prog W base sp held n2 3 (([v1, v2].drop 1).take (Tryd.prog.cellsOf 3)) = some z1 := hg 1 _ rfl
  rw [cellsIntU] at g0 g1
  obtain ⟨k, e0, rfl, wk⟩ := DataW.trod_int Tryd.underlying3 f0
  obtain ⟨s, e2, rfl, ws⟩ := DataW.trod_string Tryd.underlying9 f2
  obtain ⟨r, e3, rfl, wr⟩ := DataW.trod_int Tryd.underlying3 f3
  obtain ⟨p, e4, rfl, wp⟩ := DataW.trod_int Tryd.underlying3 g0
  obtain ⟨q, e5, rfl, wq⟩ := DataW.trod_int Tryd.underlying3 g1
  simp only [List.drop_zero, List.drop_succ_cons, List.take_succ_cons, List.take_zero, List.cons.injEq, and_true] at e0 e2 e3 e4 e5
  subst e0 e2 e3 e4 e5
  exact ⟨k, p, q, s, r, rfl, rfl, wk, wp, wq, ws, wr⟩
set_option maxRecDepth 100000 in
theorem open_val {H : Type} {enc : TypeId × Value → H} {W : World} {base b0 : Nat} {sp : Nat → Bool} {held : Bool} {rc : Reach} {v : Value} {d : DataW H} {pl : List MemPlace} (hv : Value.okWide Tryd.prog W rc b0 25 v) (h : DataW.Trod enc Tryd.prog W base sp held 25 v d pl) :
    ∃ k p q s r, v = .agg #[.int .i64 k, .int .i64 p, .int .i64 q, .string s, .int .i64 r] ∧ d = valD k p q s r ∧ pl = [] ∧ (Lit.int .i64 k).wf = true ∧ (Lit.int .i64 p).wf = true ∧ (Lit.int .i64 q).wf = true ∧ s.size ≤ maxLen ∧ (Lit.int .i64 r).wf = true := by
  obtain ⟨cs, rfl, hsz⟩ := okWide_struct Tryd.underlying25 hv
  obtain ⟨fuel, hf⟩ := h
  obtain ⟨k, p, q, s, r, hc, hx, w⟩ := trod_val hf
  have hc2 : cs.toList = [.int .i64 k, .int .i64 p, .int .i64 q, .string s, .int .i64 r] := hc
  obtain rfl : cs = #[.int .i64 k, .int .i64 p, .int .i64 q, .string s, .int .i64 r] := by
    cases cs; exact congrArg Array.mk hc2
  injection hx with h1 h2
  exact ⟨k, p, q, s, r, rfl, h1, h2, w⟩
theorem val_trod {H : Type} {enc : TypeId × Value → H} {W : World} {base : Nat} {sp : Nat → Bool} {held : Bool} (n : Nat) {k p q : Int} {s : ByteArray} {r : Int} (wk : (Lit.int .i64 k).wf = true) (wp : (Lit.int .i64 p).wf = true) (wq : (Lit.int .i64 q).wf = true) (ws : s.size ≤ maxLen) (wr : (Lit.int .i64 r).wf = true) :
    DataW.trod enc Tryd.prog W base sp held (n + 3) 25 [.int .i64 k, .int .i64 p, .int .i64 q, .string s, .int .i64 r] = some (valD k p q s r, []) := by
  have fi : ∀ (m : Nat) (x : Int), (Lit.int .i64 x).wf = true → DataW.trod enc Tryd.prog W base sp held (m + 1) 3 [.int .i64 x] = some (.lit (.int .i64 x), []) := fun m x hx => by simp [DataW.trod, Tryd.underlying3, hx]
  have fs : ∀ (m : Nat), DataW.trod enc Tryd.prog W base sp held (m + 1) 9 [.string s] = some (.lit (.string s.data.toList), []) := fun m => by simp [DataW.trod, Tryd.underlying9, ws]
  have fn : DataW.trod enc Tryd.prog W base sp held (n + 2) 23 [.int .i64 p, .int .i64 q] = some (.agg [.lit (.int .i64 p), .lit (.int .i64 q)], []) := by
    have := trod_struct_mk (enc := enc) (P := Tryd.prog) (w := W) (base := base) (spare := sp) (held := held) (n := n + 1) (cs := [.int .i64 p, .int .i64 q]) (xs := [(.lit (.int .i64 p), []), (.lit (.int .i64 q), [])]) Tryd.underlying23 (by rw [cellsNum]; rfl) (by
      have a := fi n p wp
      have b := fi n q wq
      simp [cellsIntU, a, b])
    simpa using this
  have := trod_struct_mk (enc := enc) (P := Tryd.prog) (w := W) (base := base) (spare := sp) (held := held) (n := n + 2) (cs := [.int .i64 k, .int .i64 p, .int .i64 q, .string s, .int .i64 r]) (xs := [(.lit (.int .i64 k), []), (.agg [.lit (.int .i64 p), .lit (.int .i64 q)], []), (.lit (.string s.data.toList), []), (.lit (.int .i64 r), [])]) Tryd.underlying25 (by rw [cellsVal]; rfl) (by
    have a := fi (n + 1) k wk
    have b := fi (n + 1) r wr
    have c := fs (n + 1)
    simp [cellsIntU, cellsStrU, cellsNum, a, b, c, fn])
  simpa [valD] using this
theorem shut_val {H : Type} {enc : TypeId × Value → H} {W : World} {base : Nat} {sp : Nat → Bool} {held : Bool} {k p q : Int} {s : ByteArray} {r : Int} (wk : (Lit.int .i64 k).wf = true) (wp : (Lit.int .i64 p).wf = true) (wq : (Lit.int .i64 q).wf = true) (ws : s.size ≤ maxLen) (wr : (Lit.int .i64 r).wf = true) :
    DataW.Trod enc Tryd.prog W base sp held 25 (.agg #[.int .i64 k, .int .i64 p, .int .i64 q, .string s, .int .i64 r]) (valD k p q s r) [] := ⟨3, val_trod 0 wk wp wq ws wr⟩
theorem long_any (k p q : Int) (s : ByteArray) (r : Int) (w : World) :
    Calls Tryd.prog 9 #[.agg #[.int .i64 k, .int .i64 p, .int .i64 q, .string s, .int .i64 r]] w fun e w' => e = .returned (.bool (decide ((4106 : Int) < (s.size : Int)))) ∧ Below w.heap.size w w' := by
  go_enter Tryd.func9, Tryd.ntmps9
  go_wp2
  go_ret
  refine ⟨rfl, ?_⟩
  repeat (first | exact Below.refl _ _ | refine below_drewN ?_ _ | refine Below.drew ?_ | refine Below.setCell ?_ (by first | omega | (simp; done) | (simp; omega)) _ | refine Below.alloc ?_ (by first | omega | (simp; done) | (simp; omega)) _ | refine vstep (by assumption) (by first | omega | (simp; done) | (simp; omega)) ?_)
def st2 (W : World) (R : Nat) (a0 a1 : Value) : World := (W.setCell ⟨R, 0, none⟩ a0).setCell ⟨R, 1, none⟩ a1
theorem st2_blk {T : TypeId} {W : World} {R : Nat} {b0 b1 a0 a1 : Value} (h : Blk T R #[b0, b1] W) : Blk T R #[a0, a1] (st2 W R a0 a1) := (h.set 0 a0).set 1 a1
theorem st2_bel {B : Nat} {w W : World} {R : Nat} {a0 a1 : Value} (h : Below B w W) (hR : B ≤ R) : Below B w (st2 W R a0 a1) := (h.setCell (p := ⟨R, 0, none⟩) hR a0).setCell (p := ⟨R, 1, none⟩) hR a1
set_option maxHeartbeats 1000000 in
theorem number_str (s : ByteArray) (P Q : Int) (w : World) (hs : s.size ≤ 4000000000) (he : Env w) (hP : (parseR s.data.toList).P = P) (hQ : (parseR s.data.toList).Q = Q) (hE : (parseR s.data.toList).E = 0) :
    Calls Tryd.prog 32 #[.agg #[.int .i64 3, .int .i64 0, .int .i64 0, .string s, .int .i64 0]] w fun e w' => e = .returned (.tuple #[.agg #[.int .i64 P, .int .i64 Q], .int .i64 0]) ∧ Below w.heap.size w w' := by
  have QI : Hid (∀ w, Calls Tryd.prog 42 #[.agg #[.int .i64 3, .int .i64 0, .int .i64 0, .string s, .int .i64 0]] w fun e w' => e = .returned (.bool false) ∧ Below w.heap.size w w') := Lib.hid fun w => isNum_any 3 0 0 s 0 w
  have QP : Hid (∀ w, Env w → Calls Tryd.prog 49 #[.string s] w fun e w' => e = .returned (.tuple #[.agg #[.int .i64 P, .int .i64 Q], .int .i64 0]) ∧ Below w.heap.size w w') := Lib.hid fun w he => by
    have := parse_any s w hs he
    rw [hP, hQ, hE] at this
    exact this
  have HE := Lib.hid fun o o' => (he.alloc o).alloc o'
  clear he hP hQ hE hs
  go_enter Tryd.func32, Tryd.ntmps32
  go_wp2_with (first | (go_at_call 42; (with_reducible refine (QI.out _).mono ?_); rintro e w1 ⟨rfl, hb1⟩; obtain ⟨hc1, hf1⟩ := bcell hb1; have hz := hb1.size; (try simp at hz); (try (have z1_0 : w.heap.size < w1.heap.size := (by omega))); (try (have z1_1 : w.heap.size + 1 < w1.heap.size := (by omega))); clear hz; (try (have c1_0 : w1.cell? ⟨w.heap.size, 0, none⟩ = some (.int .i64 3) := by go_simp)); (try (have c1_1 : w1.cell? ⟨w.heap.size, 1, none⟩ = some (.int .i64 0) := by go_simp)); (try (have c1_2 : w1.cell? ⟨w.heap.size, 2, none⟩ = some (.int .i64 0) := by go_simp)); (try (have c1_3 : w1.cell? ⟨w.heap.size, 3, none⟩ = some (.string s) := by go_simp)); (try (have c1_4 : w1.cell? ⟨w.heap.size, 4, none⟩ = some (.int .i64 0) := by go_simp)); (try (have d1_0 : w1.cell? ⟨w.heap.size + 1, 0, none⟩ = some (.int .i64 0) := by go_simp)); (try (have d1_1 : w1.cell? ⟨w.heap.size + 1, 1, none⟩ = some (.int .i64 0) := by go_simp)); have KB := Lib.hid (Blk.below (T := 23) (b := w.heap.size + 1) (cs := #[.int .i64 0, .int .i64 0]) (Blk.new _ _ _ _ (by simp)) hb1); have kf1 := KB.out.fz 0; have HE1 := Lib.hid ((HE.out _ _).on hb1)) | (go_at_call 49; (with_reducible refine (QP.out _ HE1.out).mono ?_); rintro e w2 ⟨rfl, hb2⟩; obtain ⟨hc2, hf2⟩ := bcell hb2; have hz := hb2.size; (try simp at hz); (try (have z2_0 : w.heap.size < w2.heap.size := (by omega))); (try (have z2_1 : w.heap.size + 1 < w2.heap.size := (by omega))); (try (have y2_1 : w1.heap.size < w2.heap.size := (by omega))); clear hz; (try (have c2_0 : w2.cell? ⟨w.heap.size, 0, none⟩ = some (.int .i64 3) := by go_simp)); (try (have c2_1 : w2.cell? ⟨w.heap.size, 1, none⟩ = some (.int .i64 0) := by go_simp)); (try (have c2_2 : w2.cell? ⟨w.heap.size, 2, none⟩ = some (.int .i64 0) := by go_simp)); (try (have c2_3 : w2.cell? ⟨w.heap.size, 3, none⟩ = some (.string s) := by go_simp)); (try (have c2_4 : w2.cell? ⟨w.heap.size, 4, none⟩ = some (.int .i64 0) := by go_simp)); (try (have d2_0 : w2.cell? ⟨w.heap.size + 1, 0, none⟩ = some (.int .i64 0) := by go_simp)); (try (have d2_1 : w2.cell? ⟨w.heap.size + 1, 1, none⟩ = some (.int .i64 0) := by go_simp)); have KB2 := Lib.hid (KB.out.below hb2); have kf2 := KB2.out.fz 0))
  have hS0 : Below w.heap.size w w2 := by
    repeat (first | exact Below.refl _ _ | refine below_drewN ?_ _ | refine Below.drew ?_ | refine Below.setCell ?_ (by first | omega | (simp; done) | (simp; omega)) _ | refine Below.alloc ?_ (by first | omega | (simp; done) | (simp; omega)) _ | refine vstep (by assumption) (by first | omega | (simp; done) | (simp; omega)) ?_)
  show bodyPost _ _ _ Exit.ret _ ((st2 w2 (w.heap.size + 1) (.int .i64 P) (.int .i64 Q)).alloc (.cells #[.int .i64 P, .int .i64 Q] 23))
  have hI := (st2_blk (a0 := .int .i64 P) (a1 := .int .i64 Q) KB2.out).ch ((Ch.refl [] _).alloc (.cells #[.int .i64 P, .int .i64 Q] 23)) (by simp)
  have hS := (st2_bel (R := w.heap.size + 1) (a0 := .int .i64 P) (a1 := .int .i64 Q) hS0 (by omega)).alloc (st2_bel (R := w.heap.size + 1) (a0 := .int .i64 P) (a1 := .int .i64 Q) hS0 (by omega)).size (.cells #[.int .i64 P, .int .i64 Q] 23)
  generalize (st2 w2 (w.heap.size + 1) (.int .i64 P) (.int .i64 Q)).alloc (.cells #[.int .i64 P, .int .i64 Q] 23) = W9 at *
  have d0 := hI.cell 0
  have d1 := hI.cell 1
  simp at d0 d1
  refine bodyPost_ret (v := .tuple #[.agg #[.int .i64 P, .int .i64 Q], .int .i64 0]) (by simp [results, Tryd.results32, go_sem, d0, d1]) rfl ⟨rfl, hS⟩
theorem str_num (p q : Int) (w : World) (he : Env w) (hv : vld p q = true) :
    Calls Tryd.prog 33 #[.agg #[.int .i64 2, .int .i64 p, .int .i64 q, .string ⟨#[]⟩, .int .i64 0]] w fun e w' => e = .returned (.tuple #[.string (mkB (textR p q)), .int .i64 0]) ∧ Below w.heap.size w w' := by
  have QI : Hid (∀ w, Calls Tryd.prog 42 #[.agg #[.int .i64 2, .int .i64 p, .int .i64 q, .string ⟨#[]⟩, .int .i64 0]] w fun e w' => e = .returned (.bool true) ∧ Below w.heap.size w w') := Lib.hid fun w => by
    have := isNum_any 2 p q ⟨#[]⟩ 0 w
    rw [hv] at this
    exact this
  have QT := Lib.hid fun w (he : Env w) => text_any p q w he
  have HE := Lib.hid fun o => he.alloc o
  clear he hv
  generalize mkB (textR p q) = t at *
  go_enter Tryd.func33, Tryd.ntmps33
  go_wp2_with (first | (go_at_call 42; (with_reducible refine (QI.out _).mono ?_); rintro e w1 ⟨rfl, hb1⟩; obtain ⟨hc1, hf1⟩ := bcell hb1; have hz := hb1.size; (try simp at hz); (try (have z1_0 : w.heap.size < w1.heap.size := (by omega))); clear hz; (try (have c1_0 : w1.cell? ⟨w.heap.size, 0, none⟩ = some (.int .i64 2) := by go_simp)); (try (have c1_1 : w1.cell? ⟨w.heap.size, 1, none⟩ = some (.int .i64 p) := by go_simp)); (try (have c1_2 : w1.cell? ⟨w.heap.size, 2, none⟩ = some (.int .i64 q) := by go_simp)); (try (have c1_3 : w1.cell? ⟨w.heap.size, 3, none⟩ = some (.string ⟨#[]⟩) := by go_simp)); (try (have c1_4 : w1.cell? ⟨w.heap.size, 4, none⟩ = some (.int .i64 0) := by go_simp)); have HE1 := Lib.hid ((HE.out _).on hb1)) | (go_at_call 34; (with_reducible refine (QT.out _ HE1.out).mono ?_); rintro e w2 ⟨rfl, hb2⟩; obtain ⟨hc2, hf2⟩ := bcell hb2; have hz := hb2.size; (try simp at hz); (try (have z2_0 : w.heap.size < w2.heap.size := (by omega))); (try (have y2_1 : w1.heap.size < w2.heap.size := (by omega))); clear hz; (try (have c2_0 : w2.cell? ⟨w.heap.size, 0, none⟩ = some (.int .i64 2) := by go_simp)); (try (have c2_1 : w2.cell? ⟨w.heap.size, 1, none⟩ = some (.int .i64 p) := by go_simp)); (try (have c2_2 : w2.cell? ⟨w.heap.size, 2, none⟩ = some (.int .i64 q) := by go_simp)); (try (have c2_3 : w2.cell? ⟨w.heap.size, 3, none⟩ = some (.string ⟨#[]⟩) := by go_simp)); (try (have c2_4 : w2.cell? ⟨w.heap.size, 4, none⟩ = some (.int .i64 0) := by go_simp))))
  go_ret2
  refine ⟨rfl, ?_⟩
  repeat (first | exact Below.refl _ _ | refine below_drewN ?_ _ | refine Below.drew ?_ | refine Below.setCell ?_ (by first | omega | (simp; done) | (simp; omega)) _ | refine Below.alloc ?_ (by first | omega | (simp; done) | (simp; omega)) _ | refine vstep (by assumption) (by first | omega | (simp; done) | (simp; omega)) ?_)
theorem hex16 : (parseR [32, 48, 120, 49, 48, 32]).P = 16 ∧ (parseR [32, 48, 120, 49, 48, 32]).Q = 1 ∧ (parseR [32, 48, 120, 49, 48, 32]).E = 0 := by decide +kernel
theorem text12 : mkB (textR 1 2) = ⟨#[49, 47, 50]⟩ := by decide +kernel
theorem textTab : textS 4 0 0 ⟨#[]⟩ 5 = ⟨#[116, 97, 98, 108, 101, 58, 32, 53]⟩ := by decide +kernel
theorem textBui : textS 6 0 0 ⟨#[115, 116, 114, 105, 110, 103, 46, 108, 101, 110]⟩ 0 = ⟨#[98, 117, 105, 108, 116, 105, 110, 58, 32, 115, 116, 114, 105, 110, 103, 46, 108, 101, 110]⟩ := by decide +kernel
set_option maxHeartbeats 4000000 in
theorem awake_any (w : World) (he : Env w) :
    Calls Tryd.prog 10 #[] w fun e w' => e = .returned (.bool true) ∧ Below w.heap.size w w' := by
  have Q1 : Hid (∀ w, Env w → Calls Tryd.prog 32 #[.agg #[.int .i64 3, .int .i64 0, .int .i64 0, .string ⟨#[32, 48, 120, 49, 48, 32]⟩, .int .i64 0]] w fun e w' => e = .returned (.tuple #[.agg #[.int .i64 16, .int .i64 1], .int .i64 0]) ∧ Below w.heap.size w w') := Lib.hid fun w he => number_str ⟨#[32, 48, 120, 49, 48, 32]⟩ 16 1 w (by decide) he hex16.1 hex16.2.1 hex16.2.2
  have Q2 : Hid (∀ w, Env w → Calls Tryd.prog 33 #[.agg #[.int .i64 2, .int .i64 1, .int .i64 2, .string ⟨#[]⟩, .int .i64 0]] w fun e w' => e = .returned (.tuple #[.string ⟨#[49, 47, 50]⟩, .int .i64 0]) ∧ Below w.heap.size w w') := Lib.hid fun w he => by rw [← text12]; exact str_num 1 2 w he (by decide)
  have Q3 : Hid (∀ w, Calls Tryd.prog 25 #[.int .i64 1] w fun e w' => e = .returned (.agg #[.int .i64 2, .int .i64 1, .int .i64 1, .string ⟨#[]⟩, .int .i64 0]) ∧ Below w.heap.size w w') := Lib.hid fun w => ofInt_ok 1 w (by decide)
  have Q4 : Hid (∀ w, Calls Tryd.prog 25 #[.int .i64 2] w fun e w' => e = .returned (.agg #[.int .i64 2, .int .i64 2, .int .i64 1, .string ⟨#[]⟩, .int .i64 0]) ∧ Below w.heap.size w w') := Lib.hid fun w => ofInt_ok 2 w (by decide)
  have Q5 : Hid (∀ w, Calls Tryd.prog 19 #[.agg #[.int .i64 2, .int .i64 1, .int .i64 1, .string ⟨#[]⟩, .int .i64 0], .agg #[.int .i64 2, .int .i64 2, .int .i64 1, .string ⟨#[]⟩, .int .i64 0]] w fun e w' => e = .returned (.tuple #[.bool true, .int .i64 0]) ∧ Below w.heap.size w w') := Lib.hid fun w => by
    have := less_any 2 1 1 ⟨#[]⟩ 0 2 2 1 ⟨#[]⟩ 0 w
    rw [show lessB 2 1 1 ⟨#[]⟩ 2 2 1 ⟨#[]⟩ = true from by decide, show lessE 2 1 1 2 2 1 = 0 from by decide] at this
    exact this
  have Q6 : Hid (∀ w, Env w → Calls Tryd.prog 17 #[.agg #[.int .i64 4, .int .i64 0, .int .i64 0, .string ⟨#[]⟩, .int .i64 5]] w fun e w' => e = .returned (.string ⟨#[116, 97, 98, 108, 101, 58, 32, 53]⟩) ∧ Below w.heap.size w w') := Lib.hid fun w he => by
    have := text5 4 0 0 ⟨#[]⟩ 5 w he (by decide) (by decide) (by decide)
    rw [textTab] at this
    exact this
  have Q7 : Hid (∀ w, Env w → Calls Tryd.prog 17 #[.agg #[.int .i64 6, .int .i64 0, .int .i64 0, .string ⟨#[115, 116, 114, 105, 110, 103, 46, 108, 101, 110]⟩, .int .i64 0]] w fun e w' => e = .returned (.string ⟨#[98, 117, 105, 108, 116, 105, 110, 58, 32, 115, 116, 114, 105, 110, 103, 46, 108, 101, 110]⟩) ∧ Below w.heap.size w w') := Lib.hid fun w he => by
    have := text5 6 0 0 ⟨#[115, 116, 114, 105, 110, 103, 46, 108, 101, 110]⟩ 0 w he (by decide) (by decide) (by decide)
    rw [textBui] at this
    exact this
  have Q8 : Hid (∀ w, Calls Tryd.prog 15 #[.agg #[.int .i64 6, .int .i64 0, .int .i64 0, .string ⟨#[]⟩, .int .i64 0]] w fun e w' => e = .returned (.string ⟨#[102, 117, 110, 99, 116, 105, 111, 110]⟩) ∧ Below w.heap.size w w') := Lib.hid fun w => type_any 6 0 0 ⟨#[]⟩ 0 w (by decide)
  have Q9 : Hid (∀ w, Calls Tryd.prog 25 #[.int .i64 0] w fun e w' => e = .returned (.agg #[.int .i64 2, .int .i64 0, .int .i64 1, .string ⟨#[]⟩, .int .i64 0]) ∧ Below w.heap.size w w') := Lib.hid fun w => ofInt_ok 0 w (by decide)
  have Q10 : Hid (∀ w, Calls Tryd.prog 13 #[.agg #[.int .i64 2, .int .i64 0, .int .i64 1, .string ⟨#[]⟩, .int .i64 0]] w fun e w' => e = .returned (.bool true) ∧ Below w.heap.size w w') := Lib.hid fun w => true_any 2 0 1 ⟨#[]⟩ 0 w
  have Q11 : Hid (∀ w, Calls Tryd.prog 11 #[.agg #[.int .i64 0, .int .i64 0, .int .i64 0, .string ⟨#[]⟩, .int .i64 0]] w fun e w' => e = .returned (.bool true) ∧ Below w.heap.size w w') := Lib.hid fun w => by
    have := valid5 0 0 0 ⟨#[]⟩ 0 w
    rw [show validF 0 0 0 ⟨#[]⟩ 0 = true from by decide] at this
    exact this
  have HE := Lib.hid he
  clear he
  have E := fun W => eq_num 16 1 16 1 W
  go_enter Tryd.func10, Tryd.ntmps10
  go_wp2_with (first | (go_at_call 32; (with_reducible refine (Q1.out _ HE.out).mono ?_); rintro e w1 ⟨rfl, hb1⟩; obtain ⟨hc1, hf1⟩ := bcell hb1; have hz := hb1.size; (try simp at hz); have z1 : w.heap.size ≤ w1.heap.size := (by omega); clear hz; have HE1 := Lib.hid (HE.out.on hb1)) | (go_at_call 33; (with_reducible refine (Q2.out _ (HE1.out.alloc _)).mono ?_); rintro e w2 ⟨rfl, hb2⟩; obtain ⟨hc2, hf2⟩ := bcell hb2; have hz := hb2.size; (try simp at hz); have z2 : w.heap.size ≤ w2.heap.size := (by omega); (try (have y2_1 : w1.heap.size < w2.heap.size := (by omega))); clear hz; (try (have a2_0 : w2.cell? ⟨w1.heap.size, 0, none⟩ = some (.int .i64 16) := by go_simp)); (try (have a2_1 : w2.cell? ⟨w1.heap.size, 1, none⟩ = some (.int .i64 1) := by go_simp)); have HE2 := Lib.hid ((HE1.out.alloc _).on hb2)) | (go_at_call 25; (with_reducible refine (Q3.out _).mono ?_); rintro e w3 ⟨rfl, hb3⟩; obtain ⟨hc3, hf3⟩ := bcell hb3; have hz := hb3.size; (try simp at hz); have z3 : w.heap.size ≤ w3.heap.size := (by omega); (try (have y3_1 : w1.heap.size < w3.heap.size := (by omega))); (try (have y3_2 : w2.heap.size < w3.heap.size := (by omega))); clear hz; (try (have a3_0 : w3.cell? ⟨w1.heap.size, 0, none⟩ = some (.int .i64 16) := by go_simp)); (try (have a3_1 : w3.cell? ⟨w1.heap.size, 1, none⟩ = some (.int .i64 1) := by go_simp)); have HE3 := Lib.hid (HE2.out.on hb3)) | (go_at_call 25; (with_reducible refine (Q4.out _).mono ?_); rintro e w4 ⟨rfl, hb4⟩; obtain ⟨hc4, hf4⟩ := bcell hb4; have hz := hb4.size; (try simp at hz); have z4 : w.heap.size ≤ w4.heap.size := (by omega); (try (have y4_1 : w1.heap.size < w4.heap.size := (by omega))); (try (have y4_2 : w2.heap.size < w4.heap.size := (by omega))); (try (have y4_3 : w3.heap.size < w4.heap.size := (by omega))); clear hz; (try (have a4_0 : w4.cell? ⟨w1.heap.size, 0, none⟩ = some (.int .i64 16) := by go_simp)); (try (have a4_1 : w4.cell? ⟨w1.heap.size, 1, none⟩ = some (.int .i64 1) := by go_simp)); have HE4 := Lib.hid (HE3.out.on hb4)) | (go_at_call 19; (with_reducible refine (Q5.out _).mono ?_); rintro e w5 ⟨rfl, hb5⟩; obtain ⟨hc5, hf5⟩ := bcell hb5; have hz := hb5.size; (try simp at hz); have z5 : w.heap.size ≤ w5.heap.size := (by omega); (try (have y5_1 : w1.heap.size < w5.heap.size := (by omega))); (try (have y5_2 : w2.heap.size < w5.heap.size := (by omega))); (try (have y5_3 : w3.heap.size < w5.heap.size := (by omega))); (try (have y5_4 : w4.heap.size < w5.heap.size := (by omega))); clear hz; (try (have a5_0 : w5.cell? ⟨w1.heap.size, 0, none⟩ = some (.int .i64 16) := by go_simp)); (try (have a5_1 : w5.cell? ⟨w1.heap.size, 1, none⟩ = some (.int .i64 1) := by go_simp)); have HE5 := Lib.hid (HE4.out.on hb5)) | (go_at_call 17; (with_reducible refine (Q6.out _ HE5.out).mono ?_); rintro e w6 ⟨rfl, hb6⟩; obtain ⟨hc6, hf6⟩ := bcell hb6; have hz := hb6.size; (try simp at hz); have z6 : w.heap.size ≤ w6.heap.size := (by omega); (try (have y6_1 : w1.heap.size < w6.heap.size := (by omega))); (try (have y6_2 : w2.heap.size < w6.heap.size := (by omega))); (try (have y6_3 : w3.heap.size < w6.heap.size := (by omega))); (try (have y6_4 : w4.heap.size < w6.heap.size := (by omega))); (try (have y6_5 : w5.heap.size < w6.heap.size := (by omega))); clear hz; (try (have a6_0 : w6.cell? ⟨w1.heap.size, 0, none⟩ = some (.int .i64 16) := by go_simp)); (try (have a6_1 : w6.cell? ⟨w1.heap.size, 1, none⟩ = some (.int .i64 1) := by go_simp)); have HE6 := Lib.hid (HE5.out.on hb6)) | (go_at_call 17; (with_reducible refine (Q7.out _ HE6.out).mono ?_); rintro e w7 ⟨rfl, hb7⟩; obtain ⟨hc7, hf7⟩ := bcell hb7; have hz := hb7.size; (try simp at hz); have z7 : w.heap.size ≤ w7.heap.size := (by omega); (try (have y7_1 : w1.heap.size < w7.heap.size := (by omega))); (try (have y7_2 : w2.heap.size < w7.heap.size := (by omega))); (try (have y7_3 : w3.heap.size < w7.heap.size := (by omega))); (try (have y7_4 : w4.heap.size < w7.heap.size := (by omega))); (try (have y7_5 : w5.heap.size < w7.heap.size := (by omega))); (try (have y7_6 : w6.heap.size < w7.heap.size := (by omega))); clear hz; (try (have a7_0 : w7.cell? ⟨w1.heap.size, 0, none⟩ = some (.int .i64 16) := by go_simp)); (try (have a7_1 : w7.cell? ⟨w1.heap.size, 1, none⟩ = some (.int .i64 1) := by go_simp)); have HE7 := Lib.hid (HE6.out.on hb7)) | (go_at_call 15; (with_reducible refine (Q8.out _).mono ?_); rintro e w8 ⟨rfl, hb8⟩; obtain ⟨hc8, hf8⟩ := bcell hb8; have hz := hb8.size; (try simp at hz); have z8 : w.heap.size ≤ w8.heap.size := (by omega); (try (have y8_1 : w1.heap.size < w8.heap.size := (by omega))); (try (have y8_2 : w2.heap.size < w8.heap.size := (by omega))); (try (have y8_3 : w3.heap.size < w8.heap.size := (by omega))); (try (have y8_4 : w4.heap.size < w8.heap.size := (by omega))); (try (have y8_5 : w5.heap.size < w8.heap.size := (by omega))); (try (have y8_6 : w6.heap.size < w8.heap.size := (by omega))); (try (have y8_7 : w7.heap.size < w8.heap.size := (by omega))); clear hz; (try (have a8_0 : w8.cell? ⟨w1.heap.size, 0, none⟩ = some (.int .i64 16) := by go_simp)); (try (have a8_1 : w8.cell? ⟨w1.heap.size, 1, none⟩ = some (.int .i64 1) := by go_simp)); have HE8 := Lib.hid (HE7.out.on hb8)) | (go_at_call 25; (with_reducible refine (Q9.out _).mono ?_); rintro e w9 ⟨rfl, hb9⟩; obtain ⟨hc9, hf9⟩ := bcell hb9; have hz := hb9.size; (try simp at hz); have z9 : w.heap.size ≤ w9.heap.size := (by omega); (try (have y9_1 : w1.heap.size < w9.heap.size := (by omega))); (try (have y9_2 : w2.heap.size < w9.heap.size := (by omega))); (try (have y9_3 : w3.heap.size < w9.heap.size := (by omega))); (try (have y9_4 : w4.heap.size < w9.heap.size := (by omega))); (try (have y9_5 : w5.heap.size < w9.heap.size := (by omega))); (try (have y9_6 : w6.heap.size < w9.heap.size := (by omega))); (try (have y9_7 : w7.heap.size < w9.heap.size := (by omega))); (try (have y9_8 : w8.heap.size < w9.heap.size := (by omega))); clear hz; (try (have a9_0 : w9.cell? ⟨w1.heap.size, 0, none⟩ = some (.int .i64 16) := by go_simp)); (try (have a9_1 : w9.cell? ⟨w1.heap.size, 1, none⟩ = some (.int .i64 1) := by go_simp)); have HE9 := Lib.hid (HE8.out.on hb9)) | (go_at_call 13; (with_reducible refine (Q10.out _).mono ?_); rintro e w10 ⟨rfl, hb10⟩; obtain ⟨hc10, hf10⟩ := bcell hb10; have hz := hb10.size; (try simp at hz); have z10 : w.heap.size ≤ w10.heap.size := (by omega); (try (have y10_1 : w1.heap.size < w10.heap.size := (by omega))); (try (have y10_2 : w2.heap.size < w10.heap.size := (by omega))); (try (have y10_3 : w3.heap.size < w10.heap.size := (by omega))); (try (have y10_4 : w4.heap.size < w10.heap.size := (by omega))); (try (have y10_5 : w5.heap.size < w10.heap.size := (by omega))); (try (have y10_6 : w6.heap.size < w10.heap.size := (by omega))); (try (have y10_7 : w7.heap.size < w10.heap.size := (by omega))); (try (have y10_8 : w8.heap.size < w10.heap.size := (by omega))); (try (have y10_9 : w9.heap.size < w10.heap.size := (by omega))); clear hz; (try (have a10_0 : w10.cell? ⟨w1.heap.size, 0, none⟩ = some (.int .i64 16) := by go_simp)); (try (have a10_1 : w10.cell? ⟨w1.heap.size, 1, none⟩ = some (.int .i64 1) := by go_simp)); have HE10 := Lib.hid (HE9.out.on hb10)) | (go_at_call 11; (with_reducible refine (Q11.out _).mono ?_); rintro e w11 ⟨rfl, hb11⟩; obtain ⟨hc11, hf11⟩ := bcell hb11; have hz := hb11.size; (try simp at hz); have z11 : w.heap.size ≤ w11.heap.size := (by omega); (try (have y11_1 : w1.heap.size < w11.heap.size := (by omega))); (try (have y11_2 : w2.heap.size < w11.heap.size := (by omega))); (try (have y11_3 : w3.heap.size < w11.heap.size := (by omega))); (try (have y11_4 : w4.heap.size < w11.heap.size := (by omega))); (try (have y11_5 : w5.heap.size < w11.heap.size := (by omega))); (try (have y11_6 : w6.heap.size < w11.heap.size := (by omega))); (try (have y11_7 : w7.heap.size < w11.heap.size := (by omega))); (try (have y11_8 : w8.heap.size < w11.heap.size := (by omega))); (try (have y11_9 : w9.heap.size < w11.heap.size := (by omega))); (try (have y11_10 : w10.heap.size < w11.heap.size := (by omega))); clear hz; (try (have a11_0 : w11.cell? ⟨w1.heap.size, 0, none⟩ = some (.int .i64 16) := by go_simp)); (try (have a11_1 : w11.cell? ⟨w1.heap.size, 1, none⟩ = some (.int .i64 1) := by go_simp)); have HE11 := Lib.hid (HE10.out.on hb11)))
  go_ret
  refine ⟨rfl, ?_⟩
  repeat (first | exact Below.refl _ _ | refine below_drewN ?_ _ | refine Below.drew ?_ | refine Below.setCell ?_ (by first | omega | (simp; done) | (simp; omega)) _ | refine Below.alloc ?_ (by first | omega | (simp; done) | (simp; omega)) _ | refine vstep (by assumption) (by first | omega | (simp; done) | (simp; omega)) ?_)
end Go.Proofs.YtmnfebgkpcjjjaaDoor
