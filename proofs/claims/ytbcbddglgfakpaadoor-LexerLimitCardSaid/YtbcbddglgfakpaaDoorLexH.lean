/- Contracts of layer 3: tokens, other than strings. -/
import Derived.Test.YtbcbddglgfakpaaDoorLexG
import Derived.BigRegion
namespace Go.Proofs.YtbcbddglgfakpaaDoor
open Go.RowKit M1 M2 M3
set_option linter.unusedVariables false
theorem Sc.other {b : Nat} {s : ByteArray} {k ln : Nat} {w : World} (h : Sc b s k ln w) {j : Nat} (hj : b ≠ j) (o : Nat) (v : Value) : Sc b s k ln (w.setCell ⟨j, o, none⟩ v) :=
  h.kept (grow_set (World.grownBy.refl w (some j)) o v) (by simp; omega)
theorem grow_new {w w' : World} {r : Option Nat} (h : w.grownBy w' r) {j : Nat} (hj : w.heap.size ≤ j) (o : Nat) (v : Value) : w.grownBy (w'.setCell ⟨j, o, none⟩ v) r :=
  World.grownBy.andThen h (grow_set (World.grownBy.refl w' (some j)) o v) (fun i e => by cases e; exact .inl hj)
/-- A token in block B. -/
def Tk (B : Nat) (k : Int) (x : ByteArray) (ln a : Int) (w : World) : Prop := w.heap[B]? = some (.cells #[.int .i64 k, .string x, .int .i64 ln, .int .i64 a] 29 (0, 0))
theorem Tk.lt {B : Nat} {k ln a : Int} {x : ByteArray} {w : World} (h : Tk B k x ln a w) : B < w.heap.size := (Array.getElem?_eq_some_iff.1 h).1
theorem Tk.c0 {B : Nat} {k ln a : Int} {x : ByteArray} {w : World} (h : Tk B k x ln a w) : w.cell? ⟨B, 0, none⟩ = some (.int .i64 k) := by unfold Tk at h; simp [World.cell?, h]
theorem Tk.c1 {B : Nat} {k ln a : Int} {x : ByteArray} {w : World} (h : Tk B k x ln a w) : w.cell? ⟨B, 1, none⟩ = some (.string x) := by unfold Tk at h; simp [World.cell?, h]
theorem Tk.c2 {B : Nat} {k ln a : Int} {x : ByteArray} {w : World} (h : Tk B k x ln a w) : w.cell? ⟨B, 2, none⟩ = some (.int .i64 ln) := by unfold Tk at h; simp [World.cell?, h]
theorem Tk.c3 {B : Nat} {k ln a : Int} {x : ByteArray} {w : World} (h : Tk B k x ln a w) : w.cell? ⟨B, 3, none⟩ = some (.int .i64 a) := by unfold Tk at h; simp [World.cell?, h]
theorem Tk.fz {B : Nat} {k ln a : Int} {x : ByteArray} {w : World} (h : Tk B k x ln a w) (o : Nat) : w.frozen? ⟨B, o, none⟩ = false := by unfold Tk at h; simp [World.frozen?, h]
theorem Tk.kept {B : Nat} {k ln a : Int} {x : ByteArray} {w w' : World} {r : Option Nat} (h : Tk B k x ln a w) (hg : w.grownBy w' r) (hr : r ≠ some B) : Tk B k x ln a w' := by
  unfold Tk at *; rw [hg.block B (Tk.lt h) (fun e => hr e.symm)]; exact h
theorem Tk.other {B : Nat} {k ln a : Int} {x : ByteArray} {w : World} (h : Tk B k x ln a w) {j : Nat} (hj : B ≠ j) (o : Nat) (v : Value) : Tk B k x ln a (w.setCell ⟨j, o, none⟩ v) :=
  h.kept (grow_set (World.grownBy.refl w (some j)) o v) (by simp; omega)
theorem Tk.set0 {B : Nat} {k ln a : Int} {x : ByteArray} {w : World} (h : Tk B k x ln a w) (j : Int) : Tk B j x ln a (w.setCell ⟨B, 0, none⟩ (.int .i64 j)) := heap_setCell_same w B 0 _ _ _ h
theorem Tk.set1 {B : Nat} {k ln a : Int} {x : ByteArray} {w : World} (h : Tk B k x ln a w) (y : ByteArray) : Tk B k y ln a (w.setCell ⟨B, 1, none⟩ (.string y)) := heap_setCell_same w B 1 _ _ _ h
theorem Tk.set2 {B : Nat} {k ln a : Int} {x : ByteArray} {w : World} (h : Tk B k x ln a w) (j : Int) : Tk B k x j a (w.setCell ⟨B, 2, none⟩ (.int .i64 j)) := heap_setCell_same w B 2 _ _ _ h
theorem Tk.set3 {B : Nat} {k ln a : Int} {x : ByteArray} {w : World} (h : Tk B k x ln a w) (j : Int) : Tk B k x ln j (w.setCell ⟨B, 3, none⟩ (.int .i64 j)) := heap_setCell_same w B 3 _ _ _ h

set_option maxHeartbeats 4000000 in
set_option maxRecDepth 100000 in
theorem token_num (b : Nat) (s x : ByteArray) (at' ln a2 : Nat) (E : Int) (w : World) (hs : s.size ≤ 4000000000) (ha : at' < s.size) (hSc : Sc b s at' ln w)
    (D1 : Hid (∀ w, Calls Tryd.prog 31 #[.int .u8 (s[at'].toNat : Int)] w fun e w' => e = .returned (.bool true) ∧ w = w'))
    (F1 : Hid (∀ w, Sc b s at' ln w → Calls Tryd.prog 48 #[.pointer (some ⟨b, 0, none⟩)] w fun e w' => e = .returned (.tuple #[.string x, .int .i64 E]) ∧ Sc b s a2 ln w' ∧ w.grownBy w' (some b))) :
    Calls Tryd.prog 30 #[.pointer (some ⟨b, 0, none⟩)] w fun e w' => e = .returned (.tuple #[.agg #[.int .i64 3, .string x, .int .i64 (ln : Int), .int .i64 (at' : Int)], .int .i64 E]) ∧ Sc b s a2 ln w' ∧ w.grownBy w' (some b) := by
  have k0 := hSc.c0
  have k1 := hSc.c1
  have k2 := hSc.c2
  have hbl := hSc.lt
  have ha' : (at' : Int) < (s.size : Int) := by omega
  go_enter Tryd.func30, Tryd.ntmps30
  go_upto_region 1 with fail
  go_region
  go_wp2
  go_name_world V0 hV0
  have hbV : Below w.heap.size w V0 := by
    rw [← hV0]; exact (((Below.refl _ _).alloc (Nat.le_refl _) _).alloc (by simp) _).drew
  have hR : Tk w.heap.size 0 ⟨#[]⟩ 0 0 V0 := by
    unfold Tk; rw [← hV0]
    exact (RowKit.Below.heap_alloc (w.alloc _) _ w.heap.size (by simp)).trans (heap_alloc_new w _)
  have hT : Tk (w.heap.size + 1) 0 ⟨#[]⟩ (ln : Int) (at' : Int) V0 := by
    unfold Tk; rw [← hV0]
    have e : (w.alloc (.cells #[.int .i64 0, .string ⟨#[]⟩, .int .i64 0, .int .i64 0] 29)).heap.size = w.heap.size + 1 := by simp
    rw [← e]
    exact heap_alloc_new (w.alloc (.cells #[.int .i64 0, .string ⟨#[]⟩, .int .i64 0, .int .i64 0] 29)) _
  have HS0 := hSc.kept (grow_below hbV none) (by simp)
  have HG0 := grow_below hbV (some b)
  clear hbV hV0 k0 k1 k2
  have k0 := HS0.c0
  have k1 := HS0.c1
  go_quiet (fail)
  have HS1 := Lib.hid (HS0.drewN nq)
  have HG1 := Lib.hid (grow_drewN HG0 nq)
  have HR1 : Hid (Tk w.heap.size 0 ⟨#[]⟩ 0 0 (V0.drewN nq)) := Lib.hid hR
  have HT1 : Hid (Tk (w.heap.size + 1) 0 ⟨#[]⟩ (ln : Int) (at' : Int) (V0.drewN nq)) := Lib.hid hT
  generalize V0.drewN nq = V1 at *
  clear HS0 HG0 hR hT k0 k1
  have t0 := HT1.out.c0
  have t1 := HT1.out.c1
  have u0 := HT1.out.fz 0
  have u1 := HT1.out.fz 1
  go_upto_region 8 with (first | (go_at_call 31; (with_reducible refine (D1.out _).mono ?_); rintro e w3 ⟨rfl, rfl⟩))
  go_name_world V2 hV2
  have HT2 := HT1.out.set0 3
  rw [hV2] at HT2
  have hg2 : V1.grownBy V2 (some (w.heap.size + 1)) := by rw [← hV2]; exact grow_set (World.grownBy.refl _ _) _ _
  have HR2 := HR1.out.kept hg2 (by simp)
  have HS2 := HS1.out.kept hg2 (by simp; omega)
  have HG2 := Lib.hid (World.grownBy.andThen HG1.out hg2 (fun j e => by cases e; left; omega))
  clear hg2 hV2 t0 t1 u0 u1
  have HH := Lib.hid HT2
  have HI := Lib.hid HR2
  have HJ := Lib.hid HS2
  clear HT2 HR2 HS2
  go_wp2_with (first | (go_at_call 48; (with_reducible refine (F1.out _ HJ.out).mono ?_); rintro e w5 ⟨rfl, hs5, hg5⟩; have HT5 := HH.out.kept hg5 (by simp; omega); have HR5 := HI.out.kept hg5 (by simp; omega); have p0 := HT5.c0; have p1 := HT5.c1; have p2 := HT5.c2; have p3 := HT5.c3; have pf := HT5.fz 1; have pg := HT5.fz 0; have r0 := HR5.c0; have r1 := HR5.c1; have r2 := HR5.c2; have r3 := HR5.c3; have rf0 := HR5.fz 0; have rf1 := HR5.fz 1; have rf2 := HR5.fz 2; have rf3 := HR5.fz 3))
  have hT9 : Tk w.heap.size 3 x (ln : Int) (at' : Int) (((((w5.setCell ⟨w.heap.size + 1, 1, none⟩ (.string x)).setCell ⟨w.heap.size, 0, none⟩ (.int .i64 3)).setCell ⟨w.heap.size, 1, none⟩ (.string x)).setCell ⟨w.heap.size, 2, none⟩ (.int .i64 (ln : Int))).setCell ⟨w.heap.size, 3, none⟩ (.int .i64 (at' : Int))) := ((((((HR5.other (by omega) _ _)).set0 3).set1 x).set2 (ln : Int)).set3 (at' : Int))
  have hS9 : Sc b s a2 ln (((((w5.setCell ⟨w.heap.size + 1, 1, none⟩ (.string x)).setCell ⟨w.heap.size, 0, none⟩ (.int .i64 3)).setCell ⟨w.heap.size, 1, none⟩ (.string x)).setCell ⟨w.heap.size, 2, none⟩ (.int .i64 (ln : Int))).setCell ⟨w.heap.size, 3, none⟩ (.int .i64 (at' : Int))) := (((((hs5.other (by omega) _ _).other (by omega) _ _).other (by omega) _ _).other (by omega) _ _).other (by omega) _ _)
  have hG9 : w.grownBy (((((w5.setCell ⟨w.heap.size + 1, 1, none⟩ (.string x)).setCell ⟨w.heap.size, 0, none⟩ (.int .i64 3)).setCell ⟨w.heap.size, 1, none⟩ (.string x)).setCell ⟨w.heap.size, 2, none⟩ (.int .i64 (ln : Int))).setCell ⟨w.heap.size, 3, none⟩ (.int .i64 (at' : Int))) (some b) := grow_new (grow_new (grow_new (grow_new (grow_new (World.grownBy.trans HG2.out hg5) (by omega) _ _) (by omega) _ _) (by omega) _ _) (by omega) _ _) (by omega) _ _
  generalize (((((w5.setCell ⟨w.heap.size + 1, 1, none⟩ (.string x)).setCell ⟨w.heap.size, 0, none⟩ (.int .i64 3)).setCell ⟨w.heap.size, 1, none⟩ (.string x)).setCell ⟨w.heap.size, 2, none⟩ (.int .i64 (ln : Int))).setCell ⟨w.heap.size, 3, none⟩ (.int .i64 (at' : Int))) = W9 at *
  have c0 := hT9.c0
  have c1 := hT9.c1
  have c2 := hT9.c2
  have c3 := hT9.c3
  refine bodyPost_ret (v := .tuple #[.agg #[.int .i64 3, .string x, .int .i64 (ln : Int), .int .i64 (at' : Int)], .int .i64 E]) ?_ rfl ⟨rfl, hS9, hG9⟩
  simp [results, Tryd.results30, go_sem, c0, c1, c2, c3]

set_option maxHeartbeats 4000000 in
set_option maxRecDepth 100000 in
theorem token_name (b : Nat) (s x : ByteArray) (at' ln a2 : Nat) (E : Int) (w : World) (hs : s.size ≤ 4000000000) (ha : at' < s.size) (hSc : Sc b s at' ln w)
    (D1 : Hid (∀ w, Calls Tryd.prog 31 #[.int .u8 (s[at'].toNat : Int)] w fun e w' => e = .returned (.bool false) ∧ w = w'))
    (W1 : Hid (∀ w, Calls Tryd.prog 33 #[.int .u8 (s[at'].toNat : Int)] w fun e w' => e = .returned (.bool true) ∧ w = w'))
    (K1 : Hid (∀ w, Calls Tryd.prog 14 #[.string x] w fun e w' => e = .returned (.bool false) ∧ w = w'))
    (F1 : Hid (∀ w, Sc b s at' ln w → Calls Tryd.prog 49 #[.pointer (some ⟨b, 0, none⟩)] w fun e w' => e = .returned (.tuple #[.string x, .int .i64 E]) ∧ Sc b s a2 ln w' ∧ w.grownBy w' (some b))) :
    Calls Tryd.prog 30 #[.pointer (some ⟨b, 0, none⟩)] w fun e w' => e = .returned (.tuple #[.agg #[.int .i64 1, .string x, .int .i64 (ln : Int), .int .i64 (at' : Int)], .int .i64 E]) ∧ Sc b s a2 ln w' ∧ w.grownBy w' (some b) := by
  have k0 := hSc.c0
  have k1 := hSc.c1
  have k2 := hSc.c2
  have hbl := hSc.lt
  have ha' : (at' : Int) < (s.size : Int) := by omega
  go_enter Tryd.func30, Tryd.ntmps30
  go_upto_region 1 with fail
  go_region
  go_wp2
  go_name_world V0 hV0
  have hbV : Below w.heap.size w V0 := by
    rw [← hV0]; exact (((Below.refl _ _).alloc (Nat.le_refl _) _).alloc (by simp) _).drew
  have hR : Tk w.heap.size 0 ⟨#[]⟩ 0 0 V0 := by
    unfold Tk; rw [← hV0]
    exact (RowKit.Below.heap_alloc (w.alloc _) _ w.heap.size (by simp)).trans (heap_alloc_new w _)
  have hT : Tk (w.heap.size + 1) 0 ⟨#[]⟩ (ln : Int) (at' : Int) V0 := by
    unfold Tk; rw [← hV0]
    have e : (w.alloc (.cells #[.int .i64 0, .string ⟨#[]⟩, .int .i64 0, .int .i64 0] 29)).heap.size = w.heap.size + 1 := by simp
    rw [← e]
    exact heap_alloc_new (w.alloc (.cells #[.int .i64 0, .string ⟨#[]⟩, .int .i64 0, .int .i64 0] 29)) _
  have HS0 := hSc.kept (grow_below hbV none) (by simp)
  have HG0 := grow_below hbV (some b)
  clear hbV hV0 k0 k1 k2
  have k0 := HS0.c0
  have k1 := HS0.c1
  go_quiet (fail)
  have HS1 := Lib.hid (HS0.drewN nq)
  have HG1 := Lib.hid (grow_drewN HG0 nq)
  have HR1 : Hid (Tk w.heap.size 0 ⟨#[]⟩ 0 0 (V0.drewN nq)) := Lib.hid hR
  have HT1 : Hid (Tk (w.heap.size + 1) 0 ⟨#[]⟩ (ln : Int) (at' : Int) (V0.drewN nq)) := Lib.hid hT
  generalize V0.drewN nq = V1 at *
  clear HS0 HG0 hR hT k0 k1
  have t0 := HT1.out.c0
  have t1 := HT1.out.c1
  have u0 := HT1.out.fz 0
  have u1 := HT1.out.fz 1
  go_upto_region 11 with (first | (go_at_call 31; (with_reducible refine (D1.out _).mono ?_); rintro e w3 ⟨rfl, rfl⟩) | (go_at_call 33; (with_reducible refine (W1.out _).mono ?_); rintro e w3 ⟨rfl, rfl⟩))
  go_name_world V2 hV2
  have HT2 := HT1.out.set0 1
  rw [hV2] at HT2
  have hg2 : V1.grownBy V2 (some (w.heap.size + 1)) := by rw [← hV2]; exact grow_set (World.grownBy.refl _ _) _ _
  have HR2 := HR1.out.kept hg2 (by simp)
  have HS2 := HS1.out.kept hg2 (by simp; omega)
  have HG2 := Lib.hid (World.grownBy.andThen HG1.out hg2 (fun j e => by cases e; left; omega))
  clear hg2 hV2 t0 t1 u0 u1
  have HH := Lib.hid HT2
  have HI := Lib.hid HR2
  have HJ := Lib.hid HS2
  clear HT2 HR2 HS2
  go_wp2_with (first | (go_at_call 49; (with_reducible refine (F1.out _ HJ.out).mono ?_); rintro e w5 ⟨rfl, hs5, hg5⟩; have HT5 := HH.out.kept hg5 (by simp; omega); have HR5 := HI.out.kept hg5 (by simp; omega); have p0 := HT5.c0; have p1 := HT5.c1; have p2 := HT5.c2; have p3 := HT5.c3; have pf := HT5.fz 1; have pg := HT5.fz 0; have r0 := HR5.c0; have r1 := HR5.c1; have r2 := HR5.c2; have r3 := HR5.c3; have rf0 := HR5.fz 0; have rf1 := HR5.fz 1; have rf2 := HR5.fz 2; have rf3 := HR5.fz 3) | (go_at_call 14; (with_reducible refine (K1.out _).mono ?_); rintro e w6 ⟨rfl, rfl⟩))
  have hT9 : Tk w.heap.size 1 x (ln : Int) (at' : Int) (((((w5.setCell ⟨w.heap.size + 1, 1, none⟩ (.string x)).setCell ⟨w.heap.size, 0, none⟩ (.int .i64 1)).setCell ⟨w.heap.size, 1, none⟩ (.string x)).setCell ⟨w.heap.size, 2, none⟩ (.int .i64 (ln : Int))).setCell ⟨w.heap.size, 3, none⟩ (.int .i64 (at' : Int))) := ((((((HR5.other (by omega) _ _)).set0 1).set1 x).set2 (ln : Int)).set3 (at' : Int))
  have hS9 : Sc b s a2 ln (((((w5.setCell ⟨w.heap.size + 1, 1, none⟩ (.string x)).setCell ⟨w.heap.size, 0, none⟩ (.int .i64 1)).setCell ⟨w.heap.size, 1, none⟩ (.string x)).setCell ⟨w.heap.size, 2, none⟩ (.int .i64 (ln : Int))).setCell ⟨w.heap.size, 3, none⟩ (.int .i64 (at' : Int))) := (((((hs5.other (by omega) _ _).other (by omega) _ _).other (by omega) _ _).other (by omega) _ _).other (by omega) _ _)
  have hG9 : w.grownBy (((((w5.setCell ⟨w.heap.size + 1, 1, none⟩ (.string x)).setCell ⟨w.heap.size, 0, none⟩ (.int .i64 1)).setCell ⟨w.heap.size, 1, none⟩ (.string x)).setCell ⟨w.heap.size, 2, none⟩ (.int .i64 (ln : Int))).setCell ⟨w.heap.size, 3, none⟩ (.int .i64 (at' : Int))) (some b) := grow_new (grow_new (grow_new (grow_new (grow_new (World.grownBy.trans HG2.out hg5) (by omega) _ _) (by omega) _ _) (by omega) _ _) (by omega) _ _) (by omega) _ _
  generalize (((((w5.setCell ⟨w.heap.size + 1, 1, none⟩ (.string x)).setCell ⟨w.heap.size, 0, none⟩ (.int .i64 1)).setCell ⟨w.heap.size, 1, none⟩ (.string x)).setCell ⟨w.heap.size, 2, none⟩ (.int .i64 (ln : Int))).setCell ⟨w.heap.size, 3, none⟩ (.int .i64 (at' : Int))) = W9 at *
  have c0 := hT9.c0
  have c1 := hT9.c1
  have c2 := hT9.c2
  have c3 := hT9.c3
  refine bodyPost_ret (v := .tuple #[.agg #[.int .i64 1, .string x, .int .i64 (ln : Int), .int .i64 (at' : Int)], .int .i64 E]) ?_ rfl ⟨rfl, hS9, hG9⟩
  simp [results, Tryd.results30, go_sem, c0, c1, c2, c3]

set_option maxHeartbeats 4000000 in
set_option maxRecDepth 100000 in
theorem token_key (b : Nat) (s x : ByteArray) (at' ln a2 : Nat) (E : Int) (w : World) (hs : s.size ≤ 4000000000) (ha : at' < s.size) (hSc : Sc b s at' ln w)
    (D1 : Hid (∀ w, Calls Tryd.prog 31 #[.int .u8 (s[at'].toNat : Int)] w fun e w' => e = .returned (.bool false) ∧ w = w'))
    (W1 : Hid (∀ w, Calls Tryd.prog 33 #[.int .u8 (s[at'].toNat : Int)] w fun e w' => e = .returned (.bool true) ∧ w = w'))
    (K1 : Hid (∀ w, Calls Tryd.prog 14 #[.string x] w fun e w' => e = .returned (.bool true) ∧ w = w'))
    (F1 : Hid (∀ w, Sc b s at' ln w → Calls Tryd.prog 49 #[.pointer (some ⟨b, 0, none⟩)] w fun e w' => e = .returned (.tuple #[.string x, .int .i64 E]) ∧ Sc b s a2 ln w' ∧ w.grownBy w' (some b))) :
    Calls Tryd.prog 30 #[.pointer (some ⟨b, 0, none⟩)] w fun e w' => e = .returned (.tuple #[.agg #[.int .i64 2, .string x, .int .i64 (ln : Int), .int .i64 (at' : Int)], .int .i64 E]) ∧ Sc b s a2 ln w' ∧ w.grownBy w' (some b) := by
  have k0 := hSc.c0
  have k1 := hSc.c1
  have k2 := hSc.c2
  have hbl := hSc.lt
  have ha' : (at' : Int) < (s.size : Int) := by omega
  go_enter Tryd.func30, Tryd.ntmps30
  go_upto_region 1 with fail
  go_region
  go_wp2
  go_name_world V0 hV0
  have hbV : Below w.heap.size w V0 := by
    rw [← hV0]; exact (((Below.refl _ _).alloc (Nat.le_refl _) _).alloc (by simp) _).drew
  have hR : Tk w.heap.size 0 ⟨#[]⟩ 0 0 V0 := by
    unfold Tk; rw [← hV0]
    exact (RowKit.Below.heap_alloc (w.alloc _) _ w.heap.size (by simp)).trans (heap_alloc_new w _)
  have hT : Tk (w.heap.size + 1) 0 ⟨#[]⟩ (ln : Int) (at' : Int) V0 := by
    unfold Tk; rw [← hV0]
    have e : (w.alloc (.cells #[.int .i64 0, .string ⟨#[]⟩, .int .i64 0, .int .i64 0] 29)).heap.size = w.heap.size + 1 := by simp
    rw [← e]
    exact heap_alloc_new (w.alloc (.cells #[.int .i64 0, .string ⟨#[]⟩, .int .i64 0, .int .i64 0] 29)) _
  have HS0 := hSc.kept (grow_below hbV none) (by simp)
  have HG0 := grow_below hbV (some b)
  clear hbV hV0 k0 k1 k2
  have k0 := HS0.c0
  have k1 := HS0.c1
  go_quiet (fail)
  have HS1 := Lib.hid (HS0.drewN nq)
  have HG1 := Lib.hid (grow_drewN HG0 nq)
  have HR1 : Hid (Tk w.heap.size 0 ⟨#[]⟩ 0 0 (V0.drewN nq)) := Lib.hid hR
  have HT1 : Hid (Tk (w.heap.size + 1) 0 ⟨#[]⟩ (ln : Int) (at' : Int) (V0.drewN nq)) := Lib.hid hT
  generalize V0.drewN nq = V1 at *
  clear HS0 HG0 hR hT k0 k1
  have t0 := HT1.out.c0
  have t1 := HT1.out.c1
  have u0 := HT1.out.fz 0
  have u1 := HT1.out.fz 1
  go_upto_region 11 with (first | (go_at_call 31; (with_reducible refine (D1.out _).mono ?_); rintro e w3 ⟨rfl, rfl⟩) | (go_at_call 33; (with_reducible refine (W1.out _).mono ?_); rintro e w3 ⟨rfl, rfl⟩))
  go_name_world V2 hV2
  have HT2 := HT1.out.set0 1
  rw [hV2] at HT2
  have hg2 : V1.grownBy V2 (some (w.heap.size + 1)) := by rw [← hV2]; exact grow_set (World.grownBy.refl _ _) _ _
  have HR2 := HR1.out.kept hg2 (by simp)
  have HS2 := HS1.out.kept hg2 (by simp; omega)
  have HG2 := Lib.hid (World.grownBy.andThen HG1.out hg2 (fun j e => by cases e; left; omega))
  clear hg2 hV2 t0 t1 u0 u1
  have HH := Lib.hid HT2
  have HI := Lib.hid HR2
  have HJ := Lib.hid HS2
  clear HT2 HR2 HS2
  go_wp2_with (first | (go_at_call 49; (with_reducible refine (F1.out _ HJ.out).mono ?_); rintro e w5 ⟨rfl, hs5, hg5⟩; have HT5 := HH.out.kept hg5 (by simp; omega); have HR5 := HI.out.kept hg5 (by simp; omega); have p0 := HT5.c0; have p1 := HT5.c1; have p2 := HT5.c2; have p3 := HT5.c3; have pf := HT5.fz 1; have pg := HT5.fz 0; have r0 := HR5.c0; have r1 := HR5.c1; have r2 := HR5.c2; have r3 := HR5.c3; have rf0 := HR5.fz 0; have rf1 := HR5.fz 1; have rf2 := HR5.fz 2; have rf3 := HR5.fz 3) | (go_at_call 14; (with_reducible refine (K1.out _).mono ?_); rintro e w6 ⟨rfl, rfl⟩))
  have hT9 : Tk w.heap.size 2 x (ln : Int) (at' : Int) ((((((w5.setCell ⟨w.heap.size + 1, 1, none⟩ (.string x)).setCell ⟨w.heap.size + 1, 0, none⟩ (.int .i64 2)).setCell ⟨w.heap.size, 0, none⟩ (.int .i64 2)).setCell ⟨w.heap.size, 1, none⟩ (.string x)).setCell ⟨w.heap.size, 2, none⟩ (.int .i64 (ln : Int))).setCell ⟨w.heap.size, 3, none⟩ (.int .i64 (at' : Int))) := ((((((HR5.other (by omega) _ _).other (by omega) _ _).set0 2).set1 x).set2 (ln : Int)).set3 (at' : Int))
  have hS9 : Sc b s a2 ln ((((((w5.setCell ⟨w.heap.size + 1, 1, none⟩ (.string x)).setCell ⟨w.heap.size + 1, 0, none⟩ (.int .i64 2)).setCell ⟨w.heap.size, 0, none⟩ (.int .i64 2)).setCell ⟨w.heap.size, 1, none⟩ (.string x)).setCell ⟨w.heap.size, 2, none⟩ (.int .i64 (ln : Int))).setCell ⟨w.heap.size, 3, none⟩ (.int .i64 (at' : Int))) := ((((((hs5.other (by omega) _ _).other (by omega) _ _).other (by omega) _ _).other (by omega) _ _).other (by omega) _ _).other (by omega) _ _)
  have hG9 : w.grownBy ((((((w5.setCell ⟨w.heap.size + 1, 1, none⟩ (.string x)).setCell ⟨w.heap.size + 1, 0, none⟩ (.int .i64 2)).setCell ⟨w.heap.size, 0, none⟩ (.int .i64 2)).setCell ⟨w.heap.size, 1, none⟩ (.string x)).setCell ⟨w.heap.size, 2, none⟩ (.int .i64 (ln : Int))).setCell ⟨w.heap.size, 3, none⟩ (.int .i64 (at' : Int))) (some b) := grow_new (grow_new (grow_new (grow_new (grow_new (grow_new (World.grownBy.trans HG2.out hg5) (by omega) _ _) (by omega) _ _) (by omega) _ _) (by omega) _ _) (by omega) _ _) (by omega) _ _
  generalize ((((((w5.setCell ⟨w.heap.size + 1, 1, none⟩ (.string x)).setCell ⟨w.heap.size + 1, 0, none⟩ (.int .i64 2)).setCell ⟨w.heap.size, 0, none⟩ (.int .i64 2)).setCell ⟨w.heap.size, 1, none⟩ (.string x)).setCell ⟨w.heap.size, 2, none⟩ (.int .i64 (ln : Int))).setCell ⟨w.heap.size, 3, none⟩ (.int .i64 (at' : Int))) = W9 at *
  have c0 := hT9.c0
  have c1 := hT9.c1
  have c2 := hT9.c2
  have c3 := hT9.c3
  refine bodyPost_ret (v := .tuple #[.agg #[.int .i64 2, .string x, .int .i64 (ln : Int), .int .i64 (at' : Int)], .int .i64 E]) ?_ rfl ⟨rfl, hS9, hG9⟩
  simp [results, Tryd.results30, go_sem, c0, c1, c2, c3]

set_option maxHeartbeats 4000000 in
set_option maxRecDepth 100000 in
theorem token_sym (b : Nat) (s x : ByteArray) (at' ln a2 : Nat) (E : Int) (w : World) (hs : s.size ≤ 4000000000) (ha : at' < s.size) (hSc : Sc b s at' ln w)
    (D1 : Hid (∀ w, Calls Tryd.prog 31 #[.int .u8 (s[at'].toNat : Int)] w fun e w' => e = .returned (.bool false) ∧ w = w'))
    (W1 : Hid (∀ w, Calls Tryd.prog 33 #[.int .u8 (s[at'].toNat : Int)] w fun e w' => e = .returned (.bool false) ∧ w = w'))
    (hq1 : ((s[at'].toNat : Int) == 34) = false) (hq2 : ((s[at'].toNat : Int) == 39) = false)
    (F1 : Hid (∀ w, Sc b s at' ln w → Calls Tryd.prog 51 #[.pointer (some ⟨b, 0, none⟩)] w fun e w' => e = .returned (.tuple #[.string x, .int .i64 E]) ∧ Sc b s a2 ln w' ∧ w.grownBy w' (some b))) :
    Calls Tryd.prog 30 #[.pointer (some ⟨b, 0, none⟩)] w fun e w' => e = .returned (.tuple #[.agg #[.int .i64 5, .string x, .int .i64 (ln : Int), .int .i64 (at' : Int)], .int .i64 E]) ∧ Sc b s a2 ln w' ∧ w.grownBy w' (some b) := by
  have k0 := hSc.c0
  have k1 := hSc.c1
  have k2 := hSc.c2
  have hbl := hSc.lt
  have ha' : (at' : Int) < (s.size : Int) := by omega
  go_enter Tryd.func30, Tryd.ntmps30
  go_upto_region 1 with fail
  go_region
  go_wp2
  go_name_world V0 hV0
  have hbV : Below w.heap.size w V0 := by
    rw [← hV0]; exact (((Below.refl _ _).alloc (Nat.le_refl _) _).alloc (by simp) _).drew
  have hR : Tk w.heap.size 0 ⟨#[]⟩ 0 0 V0 := by
    unfold Tk; rw [← hV0]
    exact (RowKit.Below.heap_alloc (w.alloc _) _ w.heap.size (by simp)).trans (heap_alloc_new w _)
  have hT : Tk (w.heap.size + 1) 0 ⟨#[]⟩ (ln : Int) (at' : Int) V0 := by
    unfold Tk; rw [← hV0]
    have e : (w.alloc (.cells #[.int .i64 0, .string ⟨#[]⟩, .int .i64 0, .int .i64 0] 29)).heap.size = w.heap.size + 1 := by simp
    rw [← e]
    exact heap_alloc_new (w.alloc (.cells #[.int .i64 0, .string ⟨#[]⟩, .int .i64 0, .int .i64 0] 29)) _
  have HS0 := hSc.kept (grow_below hbV none) (by simp)
  have HG0 := grow_below hbV (some b)
  clear hbV hV0 k0 k1 k2
  have k0 := HS0.c0
  have k1 := HS0.c1
  go_quiet (fail)
  have HS1 := Lib.hid (HS0.drewN nq)
  have HG1 := Lib.hid (grow_drewN HG0 nq)
  have HR1 : Hid (Tk w.heap.size 0 ⟨#[]⟩ 0 0 (V0.drewN nq)) := Lib.hid hR
  have HT1 : Hid (Tk (w.heap.size + 1) 0 ⟨#[]⟩ (ln : Int) (at' : Int) (V0.drewN nq)) := Lib.hid hT
  generalize V0.drewN nq = V1 at *
  clear HS0 HG0 hR hT k0 k1
  have t0 := HT1.out.c0
  have t1 := HT1.out.c1
  have u0 := HT1.out.fz 0
  have u1 := HT1.out.fz 1
  go_upto_region 5 with (first | (go_at_call 31; (with_reducible refine (D1.out _).mono ?_); rintro e w3 ⟨rfl, rfl⟩) | (go_at_call 33; (with_reducible refine (W1.out _).mono ?_); rintro e w3 ⟨rfl, rfl⟩))
  go_name_world V2 hV2
  have HT2 := HT1.out.set0 5
  rw [hV2] at HT2
  have hg2 : V1.grownBy V2 (some (w.heap.size + 1)) := by rw [← hV2]; exact grow_set (World.grownBy.refl _ _) _ _
  have HR2 := HR1.out.kept hg2 (by simp)
  have HS2 := HS1.out.kept hg2 (by simp; omega)
  have HG2 := Lib.hid (World.grownBy.andThen HG1.out hg2 (fun j e => by cases e; left; omega))
  clear hg2 hV2 t0 t1 u0 u1
  have HH := Lib.hid HT2
  have HI := Lib.hid HR2
  have HJ := Lib.hid HS2
  clear HT2 HR2 HS2
  go_wp2_with (first | (go_at_call 51; (with_reducible refine (F1.out _ HJ.out).mono ?_); rintro e w5 ⟨rfl, hs5, hg5⟩; have HT5 := HH.out.kept hg5 (by simp; omega); have HR5 := HI.out.kept hg5 (by simp; omega); have p0 := HT5.c0; have p1 := HT5.c1; have p2 := HT5.c2; have p3 := HT5.c3; have pf := HT5.fz 1; have pg := HT5.fz 0; have r0 := HR5.c0; have r1 := HR5.c1; have r2 := HR5.c2; have r3 := HR5.c3; have rf0 := HR5.fz 0; have rf1 := HR5.fz 1; have rf2 := HR5.fz 2; have rf3 := HR5.fz 3))
  have hT9 : Tk w.heap.size 5 x (ln : Int) (at' : Int) (((((w5.setCell ⟨w.heap.size + 1, 1, none⟩ (.string x)).setCell ⟨w.heap.size, 0, none⟩ (.int .i64 5)).setCell ⟨w.heap.size, 1, none⟩ (.string x)).setCell ⟨w.heap.size, 2, none⟩ (.int .i64 (ln : Int))).setCell ⟨w.heap.size, 3, none⟩ (.int .i64 (at' : Int))) := ((((((HR5.other (by omega) _ _)).set0 5).set1 x).set2 (ln : Int)).set3 (at' : Int))
  have hS9 : Sc b s a2 ln (((((w5.setCell ⟨w.heap.size + 1, 1, none⟩ (.string x)).setCell ⟨w.heap.size, 0, none⟩ (.int .i64 5)).setCell ⟨w.heap.size, 1, none⟩ (.string x)).setCell ⟨w.heap.size, 2, none⟩ (.int .i64 (ln : Int))).setCell ⟨w.heap.size, 3, none⟩ (.int .i64 (at' : Int))) := (((((hs5.other (by omega) _ _).other (by omega) _ _).other (by omega) _ _).other (by omega) _ _).other (by omega) _ _)
  have hG9 : w.grownBy (((((w5.setCell ⟨w.heap.size + 1, 1, none⟩ (.string x)).setCell ⟨w.heap.size, 0, none⟩ (.int .i64 5)).setCell ⟨w.heap.size, 1, none⟩ (.string x)).setCell ⟨w.heap.size, 2, none⟩ (.int .i64 (ln : Int))).setCell ⟨w.heap.size, 3, none⟩ (.int .i64 (at' : Int))) (some b) := grow_new (grow_new (grow_new (grow_new (grow_new (World.grownBy.trans HG2.out hg5) (by omega) _ _) (by omega) _ _) (by omega) _ _) (by omega) _ _) (by omega) _ _
  generalize (((((w5.setCell ⟨w.heap.size + 1, 1, none⟩ (.string x)).setCell ⟨w.heap.size, 0, none⟩ (.int .i64 5)).setCell ⟨w.heap.size, 1, none⟩ (.string x)).setCell ⟨w.heap.size, 2, none⟩ (.int .i64 (ln : Int))).setCell ⟨w.heap.size, 3, none⟩ (.int .i64 (at' : Int))) = W9 at *
  have c0 := hT9.c0
  have c1 := hT9.c1
  have c2 := hT9.c2
  have c3 := hT9.c3
  refine bodyPost_ret (v := .tuple #[.agg #[.int .i64 5, .string x, .int .i64 (ln : Int), .int .i64 (at' : Int)], .int .i64 E]) ?_ rfl ⟨rfl, hS9, hG9⟩
  simp [results, Tryd.results30, go_sem, c0, c1, c2, c3]
end Go.Proofs.YtbcbddglgfakpaaDoor
