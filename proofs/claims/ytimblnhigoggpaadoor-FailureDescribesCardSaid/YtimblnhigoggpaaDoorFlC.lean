/- Layer 19: texts joined, lines. -/
import Derived.Test.YtimblnhigoggpaaDoorFlB
import Derived.Test.YtimblnhigoggpaaDoorShelf
import Derived.Room.Shelf.Join48
import Derived.WalkSpells
namespace Go.Proofs.YtimblnhigoggpaaDoor
open Go.RowKit Go.Joins M1
set_option linter.unusedVariables false
open M1
def itB (n : Int) : ByteArray := ⟨(Lib.itoa n).toArray⟩
/-- The text of n is had from the library in every world that comes after w. -/
def It (w : World) (n : Int) : Prop := ∀ W, Ch [] w W → Calls Tryd.prog 28 #[.int .i64 n] W fun e w' => e = .returned (.string (itB n)) ∧ Ch [] W w'
theorem It.on {w w' : World} {n : Int} (h : It w n) (hc : Ch [] w w') : It w' n := fun W hW => h W (hc.trans hW)
theorem it_small (n : Nat) (hn : n < 100) (w : World) : It w (n : Int) := fun W _ => by
  refine (Tryd.strconv_Itoa_small n hn W).mono ?_
  rintro e w' ⟨rfl, rfl⟩
  refine ⟨?_, Ch.refl _ _⟩
  unfold itB Lib.itoa
  rw [if_neg (by omega)]
  simp
theorem tab_lt {w : World} (h : Lib.TabIs Tryd.prog w "internal/strconv.uint64pow10" .u64 Lib.pow10Tab) : 0 < w.heap.size := by
  have hg : Tryd.prog.globalNamed "internal/strconv.uint64pow10" = some 0 := by kernel_rfl
  unfold Lib.TabIs World.var? at h
  simp only [hg, Option.bind_some] at h
  rcases Nat.lt_or_ge 0 w.heap.size with h' | h'
  · exact h'
  · rw [Array.getElem?_eq_none h'] at h; simp at h
theorem it_tab {w : World} (h : Lib.TabIs Tryd.prog w "internal/strconv.uint64pow10" .u64 Lib.pow10Tab) (n : Int) (hn : (Lit.int .i64 n).wf = true) : It w n := fun W hW => by
  have hb : -9223372036854775808 ≤ n ∧ n ≤ 9223372036854775807 := by simpa [Lit.wf, IntKind.min, IntKind.max, IntKind.signed, IntKind.bits] using hn
  refine (Tryd.strconv_Itoa n hb.1 hb.2 W (var?_below hW.below (by kernel_rfl) (tab_lt h) h)).mono ?_
  rintro e w' ⟨rfl, k, os, rfl⟩
  refine ⟨rfl, Ch.of_below ⟨rfl, rfl, rfl, ?_, fun i hi => ?_⟩⟩
  · show W.heap.size ≤ (W.heap ++ os).size
    rw [Array.size_append]; omega
  · show ((W.drewN k).heap ++ os)[i]? = _
    rw [Array.getElem?_append_left (by show i < W.heap.size; omega)]
    rfl
def cat (xs : List ByteArray) : ByteArray := ⟨(xs.flatMap (·.data.toList)).toArray⟩
theorem join_nosep (xs : List (List UInt8)) : Lib.join xs [] = xs.flatten := by
  induction xs with
  | nil => rfl
  | cons x r ih =>
    rw [Lib.join_cons]
    unfold Lib.joinTail
    simp
theorem catsz (xs : List ByteArray) : (xs.flatMap (·.data.toList)).length = (xs.map ByteArray.size).sum := by
  induction xs with
  | nil => rfl
  | cons x r ih => rw [List.flatMap_cons, List.length_append, ih]; simp
theorem cat2 (a b : ByteArray) : cat [a, b] = a ++ b := by
  apply ByteArray.ext; rw [← Array.toList_inj]; simp [cat]
theorem cat3 (a b c : ByteArray) : cat [a, b, c] = a ++ b ++ c := by
  apply ByteArray.ext; rw [← Array.toList_inj]; simp [cat]
theorem join_any (bk : Nat) (xs : List ByteArray) (w : World) (hcells : ∀ (j : Nat) x, xs[j]? = some x → w.cell? ⟨bk, j, none⟩ = some (.string x)) (hbk : bk < w.heap.size) (hN : xs.length ≤ 1000000) (hlen : (xs.map ByteArray.size).sum ≤ 281474976710656) :
    Calls Tryd.prog 27 #[.slice (some ⟨bk, 0, none⟩) xs.length xs.length] w fun e w' => e = .returned (.string (cat xs)) ∧ Ch [] w w' := by
  have Q : Hid (Calls Tryd.prog 45 #[.slice (some ⟨bk, 0, none⟩) xs.length xs.length, .string ⟨#[]⟩] w fun e w' => e = .returned (.string (cat xs)) ∧ Ch [] w w') := Lib.hid (by
    have := Any.strings_Join_48 Tryd.lays156 Tryd.Builder_Extra_156 bk 0 xs.length xs ⟨#[]⟩ w (fun j x hx => by rw [Nat.zero_add]; exact hcells j x hx) hbk (by omega) (Nat.le_refl _) (by
      show (Lib.join (xs.map (·.data.toList)) []).length ≤ _
      rw [join_nosep, ← List.flatMap_def, catsz]; exact hlen)
    refine this.mono ?_
    rintro e w' ⟨rfl, hb⟩
    refine ⟨?_, Ch.of_below hb⟩
    show Ending.returned (Value.string ⟨(Lib.join (xs.map (·.data.toList)) []).toArray⟩) = _
    rw [join_nosep, ← List.flatMap_def]; rfl)
  clear hcells hlen
  go_enter Tryd.func27, Tryd.ntmps27
  go_wp2_with (go_at_call 45; (with_reducible refine (Q.out).mono ?_); rintro e w1 ⟨rfl, hc⟩; have HC := Lib.hid hc; clear hc)
  go_ret
  exact ⟨rfl, HC.out⟩
theorem strs_at (xs : List ByteArray) (W : World) (n : Nat) (hn : n = W.heap.size) : ∀ (j : Nat) x, xs[j]? = some x → (W.alloc (.cells (xs.map Value.string).toArray 9)).cell? ⟨n, j, none⟩ = some (.string x) := by
  intro j x hx
  rw [Blk.cell (Blk.new W 9 (xs.map Value.string).toArray _ hn)]
  simp [hx]
theorem join2_any (a b : ByteArray) (W : World) (h : a.size + b.size ≤ 281474976710656) :
    Calls Tryd.prog 27 #[.slice (some ⟨W.heap.size, 0, none⟩) 2 2] (W.alloc (.cells #[.string a, .string b] 9)) fun e w' => e = .returned (.string (a ++ b)) ∧ Ch [] W w' := by
  refine (join_any W.heap.size [a, b] _ (strs_at [a, b] W _ rfl) (by simp) (by simp) (by simpa using h)).mono ?_
  rintro e w' ⟨rfl, hc⟩
  exact ⟨by rw [cat2], ((Ch.refl [] W).alloc _).trans hc⟩
theorem join3_any (a b c : ByteArray) (W : World) (h : a.size + (b.size + c.size) ≤ 281474976710656) :
    Calls Tryd.prog 27 #[.slice (some ⟨W.heap.size, 0, none⟩) 3 3] (W.alloc (.cells #[.string a, .string b, .string c] 9)) fun e w' => e = .returned (.string (a ++ b ++ c)) ∧ Ch [] W w' := by
  refine (join_any W.heap.size [a, b, c] _ (strs_at [a, b, c] W _ rfl) (by simp) (by simp) (by simpa using h)).mono ?_
  rintro e w' ⟨rfl, hc⟩
  exact ⟨by rw [cat3], ((Ch.refl [] W).alloc _).trans hc⟩
def numB (p : Pl) : ByteArray := if 0 < p.l then (⟨#[58]⟩ : ByteArray) ++ itB p.l else ⟨#[]⟩
def tailB (p : Pl) : ByteArray := if p.t = true then ⟨#[32, 40, 116, 97, 105, 108, 32, 99, 97, 108, 108, 41]⟩ else ⟨#[]⟩
def lineB (p : Pl) : ByteArray := p.n ++ numB p ++ tailB p
set_option maxHeartbeats 2000000 in
theorem line_11 (p : Pl) (w : World) (ht : p.t = true) (hl : 0 < p.l) (hit : 0 < p.l → It w p.l) (hs : p.n.size ≤ 1000000000000) (hi : (itB p.l).size ≤ 1000) :
    Calls Tryd.prog 52 #[.agg #[.string p.n, .int .i64 p.l, .bool true]] w fun e w' => e = .returned (.string (p.n ++ ((⟨#[58]⟩ : ByteArray) ++ itB p.l) ++ (⟨#[32, 40, 116, 97, 105, 108, 32, 99, 97, 108, 108, 41]⟩ : ByteArray))) ∧ Ch [] w w' := by
  have QH : Hid (∀ W, Calls Tryd.prog 44 #[.agg #[.string p.n, .int .i64 p.l, .bool true]] W fun e w' => e = .returned (.bool true) ∧ Ch [] W w') := Lib.hid fun W => by
    have := hasLine_any p W
    rw [ht, decide_eq_true hl] at this
    exact this
  obtain ⟨w0, hw0⟩ : ∃ w0, w0 = w.alloc (.cells #[.string p.n, .int .i64 p.l, .bool true] 44) := ⟨_, rfl⟩
  have HC0 : Hid (Ch [] w w0) := Lib.hid (by rw [hw0]; exact (Ch.refl [] w).alloc _)
  have HB : Hid (Blk 44 w.heap.size #[.string p.n, .int .i64 p.l, .bool true] w0) := Lib.hid (by rw [hw0]; exact Blk.new w _ _ _ rfl)
  have QI : Hid (∀ W, Ch [] w W → Calls Tryd.prog 28 #[.int .i64 p.l] W fun e w' => e = .returned (.string (itB p.l)) ∧ Ch [] W w') := Lib.hid (hit hl)
  have QJ := Lib.hid (fun W => join2_any (⟨#[58]⟩ : ByteArray) (itB p.l) W (by have : (⟨#[58]⟩ : ByteArray).size = 1 := rfl; omega))
  have hn0 : p.n.size + (((⟨#[58]⟩ : ByteArray) ++ itB p.l : ByteArray).size + (⟨#[32, 40, 116, 97, 105, 108, 32, 99, 97, 108, 108, 41]⟩ : ByteArray).size) ≤ 281474976710656 := by
    have e1 : (⟨#[32, 40, 116, 97, 105, 108, 32, 99, 97, 108, 108, 41]⟩ : ByteArray).size ≤ 12 := by decide
    have e2 : ((⟨#[58]⟩ : ByteArray) ++ itB p.l : ByteArray).size ≤ 1001 := by rw [ByteArray.size_append]; have : (⟨#[58]⟩ : ByteArray).size = 1 := rfl; omega
    omega
  have QK := Lib.hid (fun W => join3_any p.n ((⟨#[58]⟩ : ByteArray) ++ itB p.l) ⟨#[32, 40, 116, 97, 105, 108, 32, 99, 97, 108, 108, 41]⟩ W hn0)
  have HW := Lib.hid hw0
  clear hw0 hn0 hit hs hi ht hl
  go_enter Tryd.func52, Tryd.ntmps52
  go_upto_region 1 with fail
  rw [← HW.out]
  have a0 : w0.cell? ⟨w.heap.size, 0, none⟩ = some (.string p.n) := HB.out.cell 0
  have a1 : w0.cell? ⟨w.heap.size, 1, none⟩ = some (.int .i64 p.l) := HB.out.cell 1
  have a2 : w0.cell? ⟨w.heap.size, 2, none⟩ = some (.bool true) := HB.out.cell 2
  have la := HB.out.lt
  go_wp2_with (first | (go_at_call 44; (with_reducible refine (QH.out _).mono ?_); rintro e w1 ⟨rfl, hc⟩; have HC1 : Hid (Ch [] w0 w1) := Lib.hid hc; clear hc; have b0 : w1.cell? ⟨w.heap.size, 0, none⟩ = some (.string p.n) := (HB.out.ch HC1.out (not_nil _)).cell 0; have b1 : w1.cell? ⟨w.heap.size, 1, none⟩ = some (.int .i64 p.l) := (HB.out.ch HC1.out (not_nil _)).cell 1; have b2 : w1.cell? ⟨w.heap.size, 2, none⟩ = some (.bool true) := (HB.out.ch HC1.out (not_nil _)).cell 2; have bl := (HB.out.ch HC1.out (not_nil _)).lt) | (go_at_call 28; (with_reducible refine (QI.out _ (HC0.out.trans HC1.out)).mono ?_); rintro e w2 ⟨rfl, hc⟩; have HC2 : Hid (Ch [] w0 w2) := Lib.hid (HC1.out.trans hc); clear hc; have d0 : w2.cell? ⟨w.heap.size, 0, none⟩ = some (.string p.n) := (HB.out.ch HC2.out (not_nil _)).cell 0; have d1 : w2.cell? ⟨w.heap.size, 1, none⟩ = some (.int .i64 p.l) := (HB.out.ch HC2.out (not_nil _)).cell 1; have d2 : w2.cell? ⟨w.heap.size, 2, none⟩ = some (.bool true) := (HB.out.ch HC2.out (not_nil _)).cell 2; have dl := (HB.out.ch HC2.out (not_nil _)).lt) | (go_at_call 27; (with_reducible refine (QJ.out _).mono ?_); rintro e w3 ⟨rfl, hc⟩; have HC3 : Hid (Ch [] w0 w3) := Lib.hid (HC2.out.trans hc); clear hc; have g0 : w3.cell? ⟨w.heap.size, 0, none⟩ = some (.string p.n) := (HB.out.ch HC3.out (not_nil _)).cell 0; have g1 : w3.cell? ⟨w.heap.size, 1, none⟩ = some (.int .i64 p.l) := (HB.out.ch HC3.out (not_nil _)).cell 1; have g2 : w3.cell? ⟨w.heap.size, 2, none⟩ = some (.bool true) := (HB.out.ch HC3.out (not_nil _)).cell 2; have gl := (HB.out.ch HC3.out (not_nil _)).lt) | (go_at_call 27; (with_reducible refine (QK.out _).mono ?_); rintro e w4 ⟨rfl, hc⟩; have HC4 : Hid (Ch [] w0 w4) := Lib.hid (HC3.out.trans hc); clear hc))
  go_ret
  exact ⟨rfl, HC0.out.trans HC4.out⟩
set_option maxHeartbeats 2000000 in
theorem line_10 (p : Pl) (w : World) (ht : p.t = false) (hl : 0 < p.l) (hit : 0 < p.l → It w p.l) (hs : p.n.size ≤ 1000000000000) (hi : (itB p.l).size ≤ 1000) :
    Calls Tryd.prog 52 #[.agg #[.string p.n, .int .i64 p.l, .bool false]] w fun e w' => e = .returned (.string (p.n ++ ((⟨#[58]⟩ : ByteArray) ++ itB p.l) ++ (⟨#[]⟩ : ByteArray))) ∧ Ch [] w w' := by
  have QH : Hid (∀ W, Calls Tryd.prog 44 #[.agg #[.string p.n, .int .i64 p.l, .bool false]] W fun e w' => e = .returned (.bool true) ∧ Ch [] W w') := Lib.hid fun W => by
    have := hasLine_any p W
    rw [ht, decide_eq_true hl] at this
    exact this
  obtain ⟨w0, hw0⟩ : ∃ w0, w0 = w.alloc (.cells #[.string p.n, .int .i64 p.l, .bool false] 44) := ⟨_, rfl⟩
  have HC0 : Hid (Ch [] w w0) := Lib.hid (by rw [hw0]; exact (Ch.refl [] w).alloc _)
  have HB : Hid (Blk 44 w.heap.size #[.string p.n, .int .i64 p.l, .bool false] w0) := Lib.hid (by rw [hw0]; exact Blk.new w _ _ _ rfl)
  have QI : Hid (∀ W, Ch [] w W → Calls Tryd.prog 28 #[.int .i64 p.l] W fun e w' => e = .returned (.string (itB p.l)) ∧ Ch [] W w') := Lib.hid (hit hl)
  have QJ := Lib.hid (fun W => join2_any (⟨#[58]⟩ : ByteArray) (itB p.l) W (by have : (⟨#[58]⟩ : ByteArray).size = 1 := rfl; omega))
  have hn0 : p.n.size + (((⟨#[58]⟩ : ByteArray) ++ itB p.l : ByteArray).size + (⟨#[]⟩ : ByteArray).size) ≤ 281474976710656 := by
    have e1 : (⟨#[]⟩ : ByteArray).size ≤ 12 := by decide
    have e2 : ((⟨#[58]⟩ : ByteArray) ++ itB p.l : ByteArray).size ≤ 1001 := by rw [ByteArray.size_append]; have : (⟨#[58]⟩ : ByteArray).size = 1 := rfl; omega
    omega
  have QK := Lib.hid (fun W => join3_any p.n ((⟨#[58]⟩ : ByteArray) ++ itB p.l) ⟨#[]⟩ W hn0)
  have HW := Lib.hid hw0
  clear hw0 hn0 hit hs hi ht hl
  go_enter Tryd.func52, Tryd.ntmps52
  go_upto_region 1 with fail
  rw [← HW.out]
  have a0 : w0.cell? ⟨w.heap.size, 0, none⟩ = some (.string p.n) := HB.out.cell 0
  have a1 : w0.cell? ⟨w.heap.size, 1, none⟩ = some (.int .i64 p.l) := HB.out.cell 1
  have a2 : w0.cell? ⟨w.heap.size, 2, none⟩ = some (.bool false) := HB.out.cell 2
  have la := HB.out.lt
  go_wp2_with (first | (go_at_call 44; (with_reducible refine (QH.out _).mono ?_); rintro e w1 ⟨rfl, hc⟩; have HC1 : Hid (Ch [] w0 w1) := Lib.hid hc; clear hc; have b0 : w1.cell? ⟨w.heap.size, 0, none⟩ = some (.string p.n) := (HB.out.ch HC1.out (not_nil _)).cell 0; have b1 : w1.cell? ⟨w.heap.size, 1, none⟩ = some (.int .i64 p.l) := (HB.out.ch HC1.out (not_nil _)).cell 1; have b2 : w1.cell? ⟨w.heap.size, 2, none⟩ = some (.bool false) := (HB.out.ch HC1.out (not_nil _)).cell 2; have bl := (HB.out.ch HC1.out (not_nil _)).lt) | (go_at_call 28; (with_reducible refine (QI.out _ (HC0.out.trans HC1.out)).mono ?_); rintro e w2 ⟨rfl, hc⟩; have HC2 : Hid (Ch [] w0 w2) := Lib.hid (HC1.out.trans hc); clear hc; have d0 : w2.cell? ⟨w.heap.size, 0, none⟩ = some (.string p.n) := (HB.out.ch HC2.out (not_nil _)).cell 0; have d1 : w2.cell? ⟨w.heap.size, 1, none⟩ = some (.int .i64 p.l) := (HB.out.ch HC2.out (not_nil _)).cell 1; have d2 : w2.cell? ⟨w.heap.size, 2, none⟩ = some (.bool false) := (HB.out.ch HC2.out (not_nil _)).cell 2; have dl := (HB.out.ch HC2.out (not_nil _)).lt) | (go_at_call 27; (with_reducible refine (QJ.out _).mono ?_); rintro e w3 ⟨rfl, hc⟩; have HC3 : Hid (Ch [] w0 w3) := Lib.hid (HC2.out.trans hc); clear hc; have g0 : w3.cell? ⟨w.heap.size, 0, none⟩ = some (.string p.n) := (HB.out.ch HC3.out (not_nil _)).cell 0; have g1 : w3.cell? ⟨w.heap.size, 1, none⟩ = some (.int .i64 p.l) := (HB.out.ch HC3.out (not_nil _)).cell 1; have g2 : w3.cell? ⟨w.heap.size, 2, none⟩ = some (.bool false) := (HB.out.ch HC3.out (not_nil _)).cell 2; have gl := (HB.out.ch HC3.out (not_nil _)).lt) | (go_at_call 27; (with_reducible refine (QK.out _).mono ?_); rintro e w4 ⟨rfl, hc⟩; have HC4 : Hid (Ch [] w0 w4) := Lib.hid (HC3.out.trans hc); clear hc))
  go_ret
  exact ⟨rfl, HC0.out.trans HC4.out⟩
set_option maxHeartbeats 2000000 in
theorem line_01 (p : Pl) (w : World) (ht : p.t = true) (hl : ¬ 0 < p.l) (hit : 0 < p.l → It w p.l) (hs : p.n.size ≤ 1000000000000) (hi : (itB p.l).size ≤ 1000) :
    Calls Tryd.prog 52 #[.agg #[.string p.n, .int .i64 p.l, .bool true]] w fun e w' => e = .returned (.string (p.n ++ (⟨#[]⟩) ++ (⟨#[32, 40, 116, 97, 105, 108, 32, 99, 97, 108, 108, 41]⟩ : ByteArray))) ∧ Ch [] w w' := by
  have QH : Hid (∀ W, Calls Tryd.prog 44 #[.agg #[.string p.n, .int .i64 p.l, .bool true]] W fun e w' => e = .returned (.bool false) ∧ Ch [] W w') := Lib.hid fun W => by
    have := hasLine_any p W
    rw [ht, decide_eq_false hl] at this
    exact this
  obtain ⟨w0, hw0⟩ : ∃ w0, w0 = w.alloc (.cells #[.string p.n, .int .i64 p.l, .bool true] 44) := ⟨_, rfl⟩
  have HC0 : Hid (Ch [] w w0) := Lib.hid (by rw [hw0]; exact (Ch.refl [] w).alloc _)
  have HB : Hid (Blk 44 w.heap.size #[.string p.n, .int .i64 p.l, .bool true] w0) := Lib.hid (by rw [hw0]; exact Blk.new w _ _ _ rfl)
  have hn0 : p.n.size + ((⟨#[]⟩ : ByteArray).size + (⟨#[32, 40, 116, 97, 105, 108, 32, 99, 97, 108, 108, 41]⟩ : ByteArray).size) ≤ 281474976710656 := by
    have e1 : (⟨#[32, 40, 116, 97, 105, 108, 32, 99, 97, 108, 108, 41]⟩ : ByteArray).size ≤ 12 := by decide
    have e2 : (⟨#[]⟩ : ByteArray).size ≤ 1001 := by decide
    omega
  have QK := Lib.hid (fun W => join3_any p.n (⟨#[]⟩) ⟨#[32, 40, 116, 97, 105, 108, 32, 99, 97, 108, 108, 41]⟩ W hn0)
  have HW := Lib.hid hw0
  clear hw0 hn0 hit hs hi ht hl
  go_enter Tryd.func52, Tryd.ntmps52
  go_upto_region 1 with fail
  rw [← HW.out]
  have a0 : w0.cell? ⟨w.heap.size, 0, none⟩ = some (.string p.n) := HB.out.cell 0
  have a1 : w0.cell? ⟨w.heap.size, 1, none⟩ = some (.int .i64 p.l) := HB.out.cell 1
  have a2 : w0.cell? ⟨w.heap.size, 2, none⟩ = some (.bool true) := HB.out.cell 2
  have la := HB.out.lt
  go_wp2_with (first | (go_at_call 44; (with_reducible refine (QH.out _).mono ?_); rintro e w1 ⟨rfl, hc⟩; have HC1 : Hid (Ch [] w0 w1) := Lib.hid hc; clear hc; have b0 : w1.cell? ⟨w.heap.size, 0, none⟩ = some (.string p.n) := (HB.out.ch HC1.out (not_nil _)).cell 0; have b1 : w1.cell? ⟨w.heap.size, 1, none⟩ = some (.int .i64 p.l) := (HB.out.ch HC1.out (not_nil _)).cell 1; have b2 : w1.cell? ⟨w.heap.size, 2, none⟩ = some (.bool true) := (HB.out.ch HC1.out (not_nil _)).cell 2; have bl := (HB.out.ch HC1.out (not_nil _)).lt) | (go_at_call 27; (with_reducible refine (QK.out _).mono ?_); rintro e w4 ⟨rfl, hc⟩; have HC4 : Hid (Ch [] w0 w4) := Lib.hid (HC1.out.trans hc); clear hc))
  go_ret
  exact ⟨rfl, HC0.out.trans HC4.out⟩
set_option maxHeartbeats 2000000 in
theorem line_00 (p : Pl) (w : World) (ht : p.t = false) (hl : ¬ 0 < p.l) (hit : 0 < p.l → It w p.l) (hs : p.n.size ≤ 1000000000000) (hi : (itB p.l).size ≤ 1000) :
    Calls Tryd.prog 52 #[.agg #[.string p.n, .int .i64 p.l, .bool false]] w fun e w' => e = .returned (.string (p.n ++ (⟨#[]⟩) ++ (⟨#[]⟩ : ByteArray))) ∧ Ch [] w w' := by
  have QH : Hid (∀ W, Calls Tryd.prog 44 #[.agg #[.string p.n, .int .i64 p.l, .bool false]] W fun e w' => e = .returned (.bool false) ∧ Ch [] W w') := Lib.hid fun W => by
    have := hasLine_any p W
    rw [ht, decide_eq_false hl] at this
    exact this
  obtain ⟨w0, hw0⟩ : ∃ w0, w0 = w.alloc (.cells #[.string p.n, .int .i64 p.l, .bool false] 44) := ⟨_, rfl⟩
  have HC0 : Hid (Ch [] w w0) := Lib.hid (by rw [hw0]; exact (Ch.refl [] w).alloc _)
  have HB : Hid (Blk 44 w.heap.size #[.string p.n, .int .i64 p.l, .bool false] w0) := Lib.hid (by rw [hw0]; exact Blk.new w _ _ _ rfl)
  have hn0 : p.n.size + ((⟨#[]⟩ : ByteArray).size + (⟨#[]⟩ : ByteArray).size) ≤ 281474976710656 := by
    have e1 : (⟨#[]⟩ : ByteArray).size ≤ 12 := by decide
    have e2 : (⟨#[]⟩ : ByteArray).size ≤ 1001 := by decide
    omega
  have QK := Lib.hid (fun W => join3_any p.n (⟨#[]⟩) ⟨#[]⟩ W hn0)
  have HW := Lib.hid hw0
  clear hw0 hn0 hit hs hi ht hl
  go_enter Tryd.func52, Tryd.ntmps52
  go_upto_region 1 with fail
  rw [← HW.out]
  have a0 : w0.cell? ⟨w.heap.size, 0, none⟩ = some (.string p.n) := HB.out.cell 0
  have a1 : w0.cell? ⟨w.heap.size, 1, none⟩ = some (.int .i64 p.l) := HB.out.cell 1
  have a2 : w0.cell? ⟨w.heap.size, 2, none⟩ = some (.bool false) := HB.out.cell 2
  have la := HB.out.lt
  go_wp2_with (first | (go_at_call 44; (with_reducible refine (QH.out _).mono ?_); rintro e w1 ⟨rfl, hc⟩; have HC1 : Hid (Ch [] w0 w1) := Lib.hid hc; clear hc; have b0 : w1.cell? ⟨w.heap.size, 0, none⟩ = some (.string p.n) := (HB.out.ch HC1.out (not_nil _)).cell 0; have b1 : w1.cell? ⟨w.heap.size, 1, none⟩ = some (.int .i64 p.l) := (HB.out.ch HC1.out (not_nil _)).cell 1; have b2 : w1.cell? ⟨w.heap.size, 2, none⟩ = some (.bool false) := (HB.out.ch HC1.out (not_nil _)).cell 2; have bl := (HB.out.ch HC1.out (not_nil _)).lt) | (go_at_call 27; (with_reducible refine (QK.out _).mono ?_); rintro e w4 ⟨rfl, hc⟩; have HC4 : Hid (Ch [] w0 w4) := Lib.hid (HC1.out.trans hc); clear hc))
  go_ret
  exact ⟨rfl, HC0.out.trans HC4.out⟩
theorem line_any (p : Pl) (w : World) (hit : 0 < p.l → It w p.l) (hs : p.n.size ≤ 1000000000000) (hi : (itB p.l).size ≤ 1000) :
    Calls Tryd.prog 52 #[.agg #[.string p.n, .int .i64 p.l, .bool p.t]] w fun e w' => e = .returned (.string (lineB p)) ∧ Ch [] w w' := by
  unfold lineB numB tailB
  by_cases hl : 0 < p.l
  · rw [if_pos hl]
    cases ht : p.t with
    | true => rw [if_pos rfl]; exact line_11 p w ht hl hit hs hi
    | false => rw [if_neg (by simp)]; exact line_10 p w ht hl hit hs hi
  · rw [if_neg hl]
    cases ht : p.t with
    | true => rw [if_pos rfl]; exact line_01 p w ht hl hit hs hi
    | false => rw [if_neg (by simp)]; exact line_00 p w ht hl hit hs hi
end Go.Proofs.YtimblnhigoggpaaDoor
