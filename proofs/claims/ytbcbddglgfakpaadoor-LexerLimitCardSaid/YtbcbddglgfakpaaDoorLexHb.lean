/- Contracts of layer 3: tokens that are strings; all tokens. -/
import Derived.Test.YtbcbddglgfakpaaDoorLexI
import Derived.Test.YtbcbddglgfakpaaDoorLexZb
namespace Go.Proofs.YtbcbddglgfakpaaDoor
open Go.RowKit M1 M2 M3
set_option linter.unusedVariables false

set_option maxHeartbeats 4000000 in
set_option maxRecDepth 100000 in
theorem token_str1 (b : Nat) (s x : ByteArray) (at' ln a2 : Nat) (E : Int) (w : World) (hs : s.size ≤ 4000000000) (ha : at' < s.size) (hSc : Sc b s at' ln w)
    (D1 : Hid (∀ w, Calls Tryd.prog 31 #[.int .u8 (s[at'].toNat : Int)] w fun e w' => e = .returned (.bool false) ∧ w = w'))
    (W1 : Hid (∀ w, Calls Tryd.prog 33 #[.int .u8 (s[at'].toNat : Int)] w fun e w' => e = .returned (.bool false) ∧ w = w'))
    (hq1 : ((s[at'].toNat : Int) == 34) = true)
    (hE : Vrs w) (F1 : Hid (∀ w, Sc b s at' ln w → Vrs w → Calls Tryd.prog 50 #[.pointer (some ⟨b, 0, none⟩)] w fun e w' => e = .returned (.tuple #[.string x, .int .i64 E]) ∧ (∃ p, (E = 0 → p = a2) ∧ Sc b s p ln w') ∧ w.grownBy w' (some b))) :
    Calls Tryd.prog 30 #[.pointer (some ⟨b, 0, none⟩)] w fun e w' => e = .returned (.tuple #[.agg #[.int .i64 4, .string x, .int .i64 (ln : Int), .int .i64 (at' : Int)], .int .i64 E]) ∧ (∃ p, (E = 0 → p = a2) ∧ Sc b s p ln w') ∧ w.grownBy w' (some b) := by
  have k0 := hSc.c0
  have k1 := hSc.c1
  have k2 := hSc.c2
  have hbl := hSc.lt
  have ha' : (at' : Int) < (s.size : Int) := by omega
  go_enter Tryd.func30, Tryd.ntmps30
  go_upto_region 1 with fail
  go_region
  go_wp2
  go_name_world V0 hV0
  have hbV : Below w.heap.size w V0 := by
    rw [← hV0]; exact (((Below.refl _ _).alloc (Nat.le_refl _) _).alloc (by simp) _).drew
  have hR : Tk w.heap.size 0 ⟨#[]⟩ 0 0 V0 := by
    unfold Tk; rw [← hV0]
    exact (RowKit.Below.heap_alloc (w.alloc _) _ w.heap.size (by simp)).trans (heap_alloc_new w _)
  have hT : Tk (w.heap.size + 1) 0 ⟨#[]⟩ (ln : Int) (at' : Int) V0 := by
    unfold Tk; rw [← hV0]
    have e : (w.alloc (.cells #[.int .i64 0, .string ⟨#[]⟩, .int .i64 0, .int .i64 0] 29)).heap.size = w.heap.size + 1 := by simp
    rw [← e]
    exact heap_alloc_new (w.alloc (.cells #[.int .i64 0, .string ⟨#[]⟩, .int .i64 0, .int .i64 0] 29)) _
  have HS0 := hSc.kept (grow_below hbV none) (by simp)
  have HG0 := grow_below hbV (some b)
  clear hbV hV0 k0 k1 k2
  have k0 := HS0.c0
  have k1 := HS0.c1
  go_quiet (fail)
  have HS1 := Lib.hid (HS0.drewN nq)
  have HG1 := Lib.hid (grow_drewN HG0 nq)
  have HR1 : Hid (Tk w.heap.size 0 ⟨#[]⟩ 0 0 (V0.drewN nq)) := Lib.hid hR
  have HT1 : Hid (Tk (w.heap.size + 1) 0 ⟨#[]⟩ (ln : Int) (at' : Int) (V0.drewN nq)) := Lib.hid hT
  generalize V0.drewN nq = V1 at *
  clear HS0 HG0 hR hT k0 k1
  have t0 := HT1.out.c0
  have t1 := HT1.out.c1
  have u0 := HT1.out.fz 0
  have u1 := HT1.out.fz 1
  go_upto_region 16 with (first | (go_at_call 31; (with_reducible refine (D1.out _).mono ?_); rintro e w3 ⟨rfl, rfl⟩) | (go_at_call 33; (with_reducible refine (W1.out _).mono ?_); rintro e w3 ⟨rfl, rfl⟩))
  go_name_world V2 hV2
  have HT2 := HT1.out.set0 4
  rw [hV2] at HT2
  have hg2 : V1.grownBy V2 (some (w.heap.size + 1)) := by rw [← hV2]; exact grow_set (World.grownBy.refl _ _) _ _
  have HR2 := HR1.out.kept hg2 (by simp)
  have HS2 := HS1.out.kept hg2 (by simp; omega)
  have HG2 := Lib.hid (World.grownBy.andThen HG1.out hg2 (fun j e => by cases e; left; omega))
  clear hg2 hV2 t0 t1 u0 u1
  have HH := Lib.hid HT2
  have HI := Lib.hid HR2
  have HJ := Lib.hid HS2
  clear HT2 HR2 HS2
  go_wp2_with (first | (go_at_call 50; (with_reducible refine (F1.out _ HJ.out ?_).mono ?_); exact hE.kept HG2.out (fun b' e => by cases e; exact ⟨_, _, _, hSc⟩); rintro e w5 ⟨rfl, ⟨p, hp, hs5⟩, hg5⟩; have HT5 := HH.out.kept hg5 (by simp; omega); have HR5 := HI.out.kept hg5 (by simp; omega); have p0 := HT5.c0; have p1 := HT5.c1; have p2 := HT5.c2; have p3 := HT5.c3; have pf := HT5.fz 1; have pg := HT5.fz 0; have r0 := HR5.c0; have r1 := HR5.c1; have r2 := HR5.c2; have r3 := HR5.c3; have rf0 := HR5.fz 0; have rf1 := HR5.fz 1; have rf2 := HR5.fz 2; have rf3 := HR5.fz 3))
  have hT9 : Tk w.heap.size 4 x (ln : Int) (at' : Int) (((((w5.setCell ⟨w.heap.size + 1, 1, none⟩ (.string x)).setCell ⟨w.heap.size, 0, none⟩ (.int .i64 4)).setCell ⟨w.heap.size, 1, none⟩ (.string x)).setCell ⟨w.heap.size, 2, none⟩ (.int .i64 (ln : Int))).setCell ⟨w.heap.size, 3, none⟩ (.int .i64 (at' : Int))) := ((((((HR5.other (by omega) _ _)).set0 4).set1 x).set2 (ln : Int)).set3 (at' : Int))
  have hS9 : Sc b s p ln (((((w5.setCell ⟨w.heap.size + 1, 1, none⟩ (.string x)).setCell ⟨w.heap.size, 0, none⟩ (.int .i64 4)).setCell ⟨w.heap.size, 1, none⟩ (.string x)).setCell ⟨w.heap.size, 2, none⟩ (.int .i64 (ln : Int))).setCell ⟨w.heap.size, 3, none⟩ (.int .i64 (at' : Int))) := (((((hs5.other (by omega) _ _).other (by omega) _ _).other (by omega) _ _).other (by omega) _ _).other (by omega) _ _)
  have hG9 : w.grownBy (((((w5.setCell ⟨w.heap.size + 1, 1, none⟩ (.string x)).setCell ⟨w.heap.size, 0, none⟩ (.int .i64 4)).setCell ⟨w.heap.size, 1, none⟩ (.string x)).setCell ⟨w.heap.size, 2, none⟩ (.int .i64 (ln : Int))).setCell ⟨w.heap.size, 3, none⟩ (.int .i64 (at' : Int))) (some b) := grow_new (grow_new (grow_new (grow_new (grow_new (World.grownBy.trans HG2.out hg5) (by omega) _ _) (by omega) _ _) (by omega) _ _) (by omega) _ _) (by omega) _ _
  generalize (((((w5.setCell ⟨w.heap.size + 1, 1, none⟩ (.string x)).setCell ⟨w.heap.size, 0, none⟩ (.int .i64 4)).setCell ⟨w.heap.size, 1, none⟩ (.string x)).setCell ⟨w.heap.size, 2, none⟩ (.int .i64 (ln : Int))).setCell ⟨w.heap.size, 3, none⟩ (.int .i64 (at' : Int))) = W9 at *
  have c0 := hT9.c0
  have c1 := hT9.c1
  have c2 := hT9.c2
  have c3 := hT9.c3
  refine bodyPost_ret (v := .tuple #[.agg #[.int .i64 4, .string x, .int .i64 (ln : Int), .int .i64 (at' : Int)], .int .i64 E]) ?_ rfl ⟨rfl, ⟨p, hp, hS9⟩, hG9⟩
  simp [results, Tryd.results30, go_sem, c0, c1, c2, c3]

set_option maxHeartbeats 4000000 in
set_option maxRecDepth 100000 in
theorem token_str2 (b : Nat) (s x : ByteArray) (at' ln a2 : Nat) (E : Int) (w : World) (hs : s.size ≤ 4000000000) (ha : at' < s.size) (hSc : Sc b s at' ln w)
    (D1 : Hid (∀ w, Calls Tryd.prog 31 #[.int .u8 (s[at'].toNat : Int)] w fun e w' => e = .returned (.bool false) ∧ w = w'))
    (W1 : Hid (∀ w, Calls Tryd.prog 33 #[.int .u8 (s[at'].toNat : Int)] w fun e w' => e = .returned (.bool false) ∧ w = w'))
    (hq1 : ((s[at'].toNat : Int) == 34) = false) (hq2 : ((s[at'].toNat : Int) == 39) = true)
    (hE : Vrs w) (F1 : Hid (∀ w, Sc b s at' ln w → Vrs w → Calls Tryd.prog 50 #[.pointer (some ⟨b, 0, none⟩)] w fun e w' => e = .returned (.tuple #[.string x, .int .i64 E]) ∧ (∃ p, (E = 0 → p = a2) ∧ Sc b s p ln w') ∧ w.grownBy w' (some b))) :
    Calls Tryd.prog 30 #[.pointer (some ⟨b, 0, none⟩)] w fun e w' => e = .returned (.tuple #[.agg #[.int .i64 4, .string x, .int .i64 (ln : Int), .int .i64 (at' : Int)], .int .i64 E]) ∧ (∃ p, (E = 0 → p = a2) ∧ Sc b s p ln w') ∧ w.grownBy w' (some b) := by
  have k0 := hSc.c0
  have k1 := hSc.c1
  have k2 := hSc.c2
  have hbl := hSc.lt
  have ha' : (at' : Int) < (s.size : Int) := by omega
  go_enter Tryd.func30, Tryd.ntmps30
  go_upto_region 1 with fail
  go_region
  go_wp2
  go_name_world V0 hV0
  have hbV : Below w.heap.size w V0 := by
    rw [← hV0]; exact (((Below.refl _ _).alloc (Nat.le_refl _) _).alloc (by simp) _).drew
  have hR : Tk w.heap.size 0 ⟨#[]⟩ 0 0 V0 := by
    unfold Tk; rw [← hV0]
    exact (RowKit.Below.heap_alloc (w.alloc _) _ w.heap.size (by simp)).trans (heap_alloc_new w _)
  have hT : Tk (w.heap.size + 1) 0 ⟨#[]⟩ (ln : Int) (at' : Int) V0 := by
    unfold Tk; rw [← hV0]
    have e : (w.alloc (.cells #[.int .i64 0, .string ⟨#[]⟩, .int .i64 0, .int .i64 0] 29)).heap.size = w.heap.size + 1 := by simp
    rw [← e]
    exact heap_alloc_new (w.alloc (.cells #[.int .i64 0, .string ⟨#[]⟩, .int .i64 0, .int .i64 0] 29)) _
  have HS0 := hSc.kept (grow_below hbV none) (by simp)
  have HG0 := grow_below hbV (some b)
  clear hbV hV0 k0 k1 k2
  have k0 := HS0.c0
  have k1 := HS0.c1
  go_quiet (fail)
  have HS1 := Lib.hid (HS0.drewN nq)
  have HG1 := Lib.hid (grow_drewN HG0 nq)
  have HR1 : Hid (Tk w.heap.size 0 ⟨#[]⟩ 0 0 (V0.drewN nq)) := Lib.hid hR
  have HT1 : Hid (Tk (w.heap.size + 1) 0 ⟨#[]⟩ (ln : Int) (at' : Int) (V0.drewN nq)) := Lib.hid hT
  generalize V0.drewN nq = V1 at *
  clear HS0 HG0 hR hT k0 k1
  have t0 := HT1.out.c0
  have t1 := HT1.out.c1
  have u0 := HT1.out.fz 0
  have u1 := HT1.out.fz 1
  go_upto_region 16 with (first | (go_at_call 31; (with_reducible refine (D1.out _).mono ?_); rintro e w3 ⟨rfl, rfl⟩) | (go_at_call 33; (with_reducible refine (W1.out _).mono ?_); rintro e w3 ⟨rfl, rfl⟩))
  go_name_world V2 hV2
  have HT2 := HT1.out.set0 4
  rw [hV2] at HT2
  have hg2 : V1.grownBy V2 (some (w.heap.size + 1)) := by rw [← hV2]; exact grow_set (World.grownBy.refl _ _) _ _
  have HR2 := HR1.out.kept hg2 (by simp)
  have HS2 := HS1.out.kept hg2 (by simp; omega)
  have HG2 := Lib.hid (World.grownBy.andThen HG1.out hg2 (fun j e => by cases e; left; omega))
  clear hg2 hV2 t0 t1 u0 u1
  have HH := Lib.hid HT2
  have HI := Lib.hid HR2
  have HJ := Lib.hid HS2
  clear HT2 HR2 HS2
  go_wp2_with (first | (go_at_call 50; (with_reducible refine (F1.out _ HJ.out ?_).mono ?_); exact hE.kept HG2.out (fun b' e => by cases e; exact ⟨_, _, _, hSc⟩); rintro e w5 ⟨rfl, ⟨p, hp, hs5⟩, hg5⟩; have HT5 := HH.out.kept hg5 (by simp; omega); have HR5 := HI.out.kept hg5 (by simp; omega); have p0 := HT5.c0; have p1 := HT5.c1; have p2 := HT5.c2; have p3 := HT5.c3; have pf := HT5.fz 1; have pg := HT5.fz 0; have r0 := HR5.c0; have r1 := HR5.c1; have r2 := HR5.c2; have r3 := HR5.c3; have rf0 := HR5.fz 0; have rf1 := HR5.fz 1; have rf2 := HR5.fz 2; have rf3 := HR5.fz 3))
  have hT9 : Tk w.heap.size 4 x (ln : Int) (at' : Int) (((((w5.setCell ⟨w.heap.size + 1, 1, none⟩ (.string x)).setCell ⟨w.heap.size, 0, none⟩ (.int .i64 4)).setCell ⟨w.heap.size, 1, none⟩ (.string x)).setCell ⟨w.heap.size, 2, none⟩ (.int .i64 (ln : Int))).setCell ⟨w.heap.size, 3, none⟩ (.int .i64 (at' : Int))) := ((((((HR5.other (by omega) _ _)).set0 4).set1 x).set2 (ln : Int)).set3 (at' : Int))
  have hS9 : Sc b s p ln (((((w5.setCell ⟨w.heap.size + 1, 1, none⟩ (.string x)).setCell ⟨w.heap.size, 0, none⟩ (.int .i64 4)).setCell ⟨w.heap.size, 1, none⟩ (.string x)).setCell ⟨w.heap.size, 2, none⟩ (.int .i64 (ln : Int))).setCell ⟨w.heap.size, 3, none⟩ (.int .i64 (at' : Int))) := (((((hs5.other (by omega) _ _).other (by omega) _ _).other (by omega) _ _).other (by omega) _ _).other (by omega) _ _)
  have hG9 : w.grownBy (((((w5.setCell ⟨w.heap.size + 1, 1, none⟩ (.string x)).setCell ⟨w.heap.size, 0, none⟩ (.int .i64 4)).setCell ⟨w.heap.size, 1, none⟩ (.string x)).setCell ⟨w.heap.size, 2, none⟩ (.int .i64 (ln : Int))).setCell ⟨w.heap.size, 3, none⟩ (.int .i64 (at' : Int))) (some b) := grow_new (grow_new (grow_new (grow_new (grow_new (World.grownBy.trans HG2.out hg5) (by omega) _ _) (by omega) _ _) (by omega) _ _) (by omega) _ _) (by omega) _ _
  generalize (((((w5.setCell ⟨w.heap.size + 1, 1, none⟩ (.string x)).setCell ⟨w.heap.size, 0, none⟩ (.int .i64 4)).setCell ⟨w.heap.size, 1, none⟩ (.string x)).setCell ⟨w.heap.size, 2, none⟩ (.int .i64 (ln : Int))).setCell ⟨w.heap.size, 3, none⟩ (.int .i64 (at' : Int))) = W9 at *
  have c0 := hT9.c0
  have c1 := hT9.c1
  have c2 := hT9.c2
  have c3 := hT9.c3
  refine bodyPost_ret (v := .tuple #[.agg #[.int .i64 4, .string x, .int .i64 (ln : Int), .int .i64 (at' : Int)], .int .i64 E]) ?_ rfl ⟨rfl, ⟨p, hp, hS9⟩, hG9⟩
  simp [results, Tryd.results30, go_sem, c0, c1, c2, c3]

/-- The token that begins at the place a. -/
def tkR (l : List UInt8) (a : Nat) : TR :=
  if l.getD a 0 = 34 ∨ l.getD a 0 = 39 then ⟨4, (litR l a (l.getD a 0)).1, (litR l a (l.getD a 0)).2.2, (litR l a (l.getD a 0)).2.1⟩ else tokP l a (l.getD a 0)
def TokSaid2 (b : Nat) (s : ByteArray) (a ln : Nat) (t : TR) (w : World) : Prop :=
  Calls Tryd.prog 30 #[.pointer (some ⟨b, 0, none⟩)] w fun e w' => e = .returned (.tuple #[.agg #[.int .i64 t.K, .string (bs t.x), .int .i64 (ln : Int), .int .i64 (a : Int)], .int .i64 t.E]) ∧ (∃ p, (t.E = 0 → p = t.nx) ∧ Sc b s p ln w') ∧ w.grownBy w' (some b)
theorem token2_any (b : Nat) (s : ByteArray) (a ln : Nat) (w : World) (hs : s.size ≤ 70000) (ha : a < s.size) (hSc : Sc b s a ln w) (hE : Vrs w) :
    TokSaid2 b s a ln (tkR s.data.toList a) w := by
  have hgd : s.data.toList.getD a 0 = s[a] := by rw [List.getD_eq_getElem?_getD, List.getElem?_eq_getElem (by simp; omega)]; rfl
  unfold TokSaid2 tkR
  rw [hgd]
  by_cases hq : s[a] = 34 ∨ s[a] = 39
  · rw [if_pos hq]
    have hD := fun w => digit3_any s[a] w
    have hW := fun w => word3_any s[a] w
    rw [show dgt s[a] = false by rcases hq with h | h <;> (rw [h]; decide)] at hD
    rw [show wrd s[a] = false by rcases hq with h | h <;> (rw [h]; decide)] at hW
    have F := fun w h1 h2 => literal_any b s a ln w hs ha hq h1 h2
    by_cases h34 : s[a] = 34
    · exact token_str1 b s _ a ln _ _ w (by omega) ha hSc (Lib.hid hD) (Lib.hid hW) (by rw [h34]; rfl) hE (Lib.hid F)
    · exact token_str2 b s _ a ln _ _ w (by omega) ha hSc (Lib.hid hD) (Lib.hid hW) (by rw [(Or.resolve_left hq h34)]; rfl) (by rw [(Or.resolve_left hq h34)]; rfl) hE (Lib.hid F)
  · rw [if_neg hq]
    exact (token_any b s a ln w (by omega) ha hSc (fun h => hq (.inl h)) (fun h => hq (.inr h))).mono fun e w' ⟨h1, h2, h3⟩ => ⟨h1, ⟨_, fun _ => rfl, h2⟩, h3⟩
end Go.Proofs.YtbcbddglgfakpaaDoor
