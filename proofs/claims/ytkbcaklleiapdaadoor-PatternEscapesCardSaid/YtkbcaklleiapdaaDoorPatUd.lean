/- Contracts of layer 4: %1. -/
import Derived.Test.YtkbcaklleiapdaaDoorPatUb
import Derived.BigRegion
import Derived.StillTailTactics
import Derived.Deep.RegionWith
namespace Go.Proofs.YtkbcaklleiapdaaDoor
open Go.RowKit M4
set_option linter.unusedVariables false

theorem ext_list (s : ByteArray) (a b : Nat) (hb : b ≤ s.size) : (s.extract a b).data.toList = (s.data.toList.drop a).take (b - a) := by
  rw [ByteArray.data_extract, Array.toList_extract, List.extract_eq_take_drop]

set_option maxHeartbeats 8000000 in
set_option maxRecDepth 100000 in
theorem once_6 (E : Env) (m : Caps) (left : Int) (j i : Nat) (it : Itm) (gi cap : Nat) (w : World) (hs : E.s.size ≤ 1000000) (hi : i ≤ E.s.size) (hl : 0 ≤ left ∧ left ≤ 1000000) (hj : E.g.its[j]? = some it) (hiv : E.iv = .slice (some ⟨gi, 0, none⟩) E.g.its.length cap) (h : Mat E m left w) (hk : it.kind = 6) (a b : Nat) (hc : m[it.cap]? = some ((a : Int), (b : Int))) (hab : a ≤ b) (hbs : b ≤ E.s.size) :
    Calls Tryd.prog 70 #[.pointer (some ⟨E.b, 0, none⟩), .pointer (some ⟨gi, j * 6, none⟩), .int .i64 (i : Int)] w fun e w' => OnceSaid E m left i it e w' ∧ Ch [E.b, E.cb] w w' := by
  obtain ⟨l1, l2⟩ := hl
  have m0 := h.c 0
  have m5 := h.c 5
  have m7 := h.c 7
  simp at m0 m5 m7
  obtain ⟨gi', cap', v, hiv', hv, hcs⟩ := items_cell h hj
  obtain ⟨rfl, rfl⟩ : gi' = gi ∧ cap' = cap := by rw [hiv] at hiv'; cases hiv'; exact ⟨rfl, rfl⟩
  have c0 : w.cell? ⟨gi', j * 6, none⟩ = some (.int .i64 (it.kind : Int)) := hcs 0 (by decide)
  have c1 : w.cell? ⟨gi', j * 6 + 1, none⟩ = some v := hcs 1 (by decide)
  have c3 : w.cell? ⟨gi', j * 6 + 3, none⟩ = some (.int .u8 (it.x.toNat : Int)) := hcs 3 (by decide)
  have c4 : w.cell? ⟨gi', j * 6 + 4, none⟩ = some (.int .u8 (it.y.toNat : Int)) := hcs 4 (by decide)
  have c5 : w.cell? ⟨gi', j * 6 + 5, none⟩ = some (.int .i64 (it.cap : Int)) := hcs 5 (by decide)
  have HM := Lib.hid h
  rw [hk] at c0
  have hcl := (List.getElem?_eq_some_iff.1 hc).1
  have hml := h.ml
  have hci : (it.cap : Int) < (E.g.caps : Int) := by omega
  have hci0 : 0 ≤ (it.cap : Int) := by omega
  have q0 := h.cc (it.cap * 2)
  have q1 := h.cc (it.cap * 2 + 1)
  rw [(capC_get m _ _ hc).1] at q0
  rw [(capC_get m _ _ hc).2] at q1
  simp only [] at q0 q1
  have hgd : m.getD it.cap (0, 0) = ((a : Int), (b : Int)) := by rw [List.getD_eq_getElem?_getD, hc]; rfl
  obtain ⟨t, ht⟩ : ∃ t, E.s.extract a b = t := ⟨_, rfl⟩
  obtain ⟨u, hu⟩ : ∃ u, E.s.extract i E.s.size = u := ⟨_, rfl⟩
  have hts : t.size = b - a := by rw [← ht, ByteArray.size_extract]; omega
  have htl : t.data.toList = (E.s.data.toList.drop a).take (b - a) := by rw [← ht, ext_list _ _ _ hbs]
  have hul : u.data.toList = E.s.data.toList.drop i := by rw [← hu, ext_list _ _ _ (Nat.le_refl _), List.take_of_length_le (by simp)]
  have HO : Hid (onceM E.s.data.toList it i m = if t.data.toList.isPrefixOf (E.s.data.toList.drop i) = true then (some (i + t.size, m), 0) else (none, 0)) := Lib.hid (by
    rw [once6 hk, hgd]; simp only [Int.toNat_natCast]; rw [← htl]
    have : t.data.toList.length = t.size := Array.length_toList
    rw [this])
  have P0 := fun W => Tryd.strings_HasPrefix u t W
  rw [hul] at P0
  have a1 : (a : Int) ≤ (b : Int) := by omega
  have z1 : gi' < w.heap.size := own_lt h.own (mem_ob.2 (by rw [hiv]; rfl))
  have z2 : E.cb < w.heap.size := (Array.getElem?_eq_some_iff.1 h.cbk).1
  have z3 : E.b < w.heap.size := (Array.getElem?_eq_some_iff.1 h.blk).1
  have a2 : (b : Int) ≤ (E.s.size : Int) := by omega
  have a3 : 0 ≤ (a : Int) := by omega
  have a4 : 0 ≤ (b : Int) := by omega
  have a5 : (i : Int) ≤ (E.s.size : Int) := by omega
  have a6 : 0 ≤ (i : Int) := by omega
  have a7 : t.size ≤ 1000000 := by omega
  have a8 := i64w ((i : Int) + (t.size : Int)) (by omega)
  have HT := Lib.hid ht
  have HU := Lib.hid hu
  cases hp : t.data.toList.isPrefixOf (E.s.data.toList.drop i) with
  | false =>
    have P1 : Hid (∀ W, Calls Tryd.prog 82 #[.string u, .string t] W fun e w' => e = .returned (.bool false) ∧ w' = W) := Lib.hid (fun W => by have := P0 W; rw [show Lib.hasPrefix (E.s.data.toList.drop i) t.data.toList = false from hp] at this; exact this)
    have HP := Lib.hid hp
    have HD := Lib.hid fun n => HM.out.same (((Ch.refl [] w).alloc (.cells #[.int .i64 (a : Int), .int .i64 (b : Int)] 43)).drewN n)
    have HCC := Lib.hid fun n => Ch.drewN ((Ch.refl [E.b, E.cb] w).alloc (.cells #[.int .i64 (a : Int), .int .i64 (b : Int)] 43)) n
    clear h hj hcs hv hiv hiv' hk hc hcl hml hgd ht hu hts htl hul P0 hp
    go_enter Tryd.func70, Tryd.ntmps70
    go_upto_region 14 with fail
    go_region
    go_upto_region 15 with fail
    go_quiet (fail)
    rw [HT.out]
    go_wp2_with (go_at_call 82; rw [HU.out]; (with_reducible refine (P1.out _).mono ?_); rintro e w2 ⟨rfl, rfl⟩)
    go_ret2
    exact ⟨once_no l1 (by rw [HO.out, if_neg (by rw [HP.out]; decide)]) _ rfl (HD.out _), HCC.out _⟩
  | true =>
    have P1 : Hid (∀ W, Calls Tryd.prog 82 #[.string u, .string t] W fun e w' => e = .returned (.bool true) ∧ w' = W) := Lib.hid (fun W => by have := P0 W; rw [show Lib.hasPrefix (E.s.data.toList.drop i) t.data.toList = true from hp] at this; exact this)
    have HP := Lib.hid hp
    have HD := Lib.hid fun n => HM.out.same (((Ch.refl [] w).alloc (.cells #[.int .i64 (a : Int), .int .i64 (b : Int)] 43)).drewN n)
    have HCC := Lib.hid fun n => Ch.drewN ((Ch.refl [E.b, E.cb] w).alloc (.cells #[.int .i64 (a : Int), .int .i64 (b : Int)] 43)) n
    clear h hj hcs hv hiv hiv' hk hc hcl hml hgd ht hu hts htl hul P0 hp
    go_enter Tryd.func70, Tryd.ntmps70
    go_upto_region 14 with fail
    go_region
    go_upto_region 15 with fail
    go_quiet (fail)
    rw [HT.out]
    go_wp2_with (go_at_call 82; rw [HU.out]; (with_reducible refine (P1.out _).mono ?_); rintro e w2 ⟨rfl, rfl⟩)
    go_ret2
    exact ⟨once_yes l1 (by rw [HO.out, if_pos HP.out]) (by push_cast; rfl) (HD.out _), HCC.out _⟩
end Go.Proofs.YtkbcaklleiapdaaDoor
