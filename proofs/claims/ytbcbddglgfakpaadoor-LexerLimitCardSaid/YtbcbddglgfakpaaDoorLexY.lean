/- Contracts of layer 3: decimal and hexadecimal escapes. -/
import Derived.Test.YtbcbddglgfakpaaDoorLexX
import Derived.Lib.AtoiErrMem
import Derived.Lib.IfaceEq
namespace Go.Proofs.YtbcbddglgfakpaaDoor.M3
def dvF : Nat → List UInt8 → Nat
  | acc, [] => acc
  | acc, c :: t => dvF (acc * 10 + (c.toNat - 48)) t
theorem dvF_ge (l : List UInt8) (acc : Nat) : acc ≤ dvF acc l := by
  induction l generalizing acc with
  | nil => exact Nat.le_refl _
  | cons c t ih => have := ih (acc * 10 + (c.toNat - 48)); unfold dvF; omega
theorem pu_dv (l : List UInt8) (hd : ∀ c ∈ l, dgt c = true) (acc : Nat) (ha : acc ≤ 255) : Lib.parseUintM 255 acc l = if dvF acc l ≤ 255 then .ok (dvF acc l) else .range := by
  induction l generalizing acc with
  | nil => unfold Lib.parseUintM dvF; rw [if_pos ha]
  | cons c t ih =>
    have hc : 48 ≤ c.toNat ∧ c.toNat ≤ 57 := of_decide_eq_true (hd c (List.mem_cons_self ..))
    unfold Lib.parseUintM
    rw [if_pos hc, if_neg (by omega)]
    show _ = if dvF (acc * 10 + (c.toNat - 48)) t ≤ 255 then Lib.NumEnd.ok (dvF (acc * 10 + (c.toNat - 48)) t) else .range
    have hg := dvF_ge t (acc * 10 + (c.toNat - 48))
    by_cases h : 255 < acc * 10 + (c.toNat - 48)
    · rw [if_pos h, if_neg (by omega)]
    · rw [if_neg h, ih (fun d h => hd d (List.mem_cons_of_mem _ h)) _ (by omega)]
theorem pu8_dv {l : List UInt8} (hn : l ≠ []) (hd : ∀ c ∈ l, dgt c = true) : Lib.parseUintB 8 l = if dvF 0 l ≤ 255 then .ok (dvF 0 l) else .range := by
  unfold Lib.parseUintB; rw [if_neg hn]; exact pu_dv l hd 0 (by omega)
end Go.Proofs.YtbcbddglgfakpaaDoor.M3
namespace Go.Proofs.YtbcbddglgfakpaaDoor
open Go.RowKit M3
set_option linter.unusedVariables false
def decV (l : List UInt8) : Nat := dvF 0 (l.take (dn l))
def hexR (l : List UInt8) : Option Nat := if l.length < 2 then none else pH 0 (l.take 2)
/-- What the two variables of the library hold. -/
structure Vrs (w : World) : Prop where
  ex : ∃ ev1 ev2, w.cell? ⟨1, 0, none⟩ = some ev1 ∧ (ev1 = .nilIface ∨ ∃ te pe, ev1 = .iface te pe) ∧ w.cell? ⟨2, 0, none⟩ = some ev2 ∧ (ev2 = .nilIface ∨ ∃ te pe, ev2 = .iface te pe)
theorem Vrs.kept {w w' : World} {r : Option Nat} (h : Vrs w) (hg : w.grownBy w' r) (hr : ∀ b, r = some b → ∃ s k ln, Sc b s k ln w) : Vrs w' := by
  obtain ⟨e1, e2, h1, g1, h2, g2⟩ := h.ex
  refine ⟨e1, e2, hg.cell h1 ?_, g1, hg.cell h2 ?_, g2⟩
  · intro e
    obtain ⟨s, k, ln, hs⟩ := hr 1 e.symm
    rw [hs.c0] at h1; cases h1; rcases g1 with g | ⟨_, _, g⟩ <;> cases g
  · intro e
    obtain ⟨s, k, ln, hs⟩ := hr 2 e.symm
    rw [hs.c0] at h2; cases h2; rcases g2 with g | ⟨_, _, g⟩ <;> cases g
theorem Vrs.heap {w w' : World} (h : Vrs w) (e : w'.heap = w.heap) : Vrs w' := by
  obtain ⟨e1, e2, h1, g1, h2, g2⟩ := h.ex
  have hc : ∀ (a : Addr), w'.cell? a = w.cell? a := fun a => World.cell?_of_block (by rw [e])
  exact ⟨e1, e2, by rw [hc]; exact h1, g1, by rw [hc]; exact h2, g2⟩
theorem Vrs.lt {w : World} (h : Vrs w) : 2 < w.heap.size := by
  obtain ⟨e1, e2, h1, g1, h2, g2⟩ := h.ex
  rcases Nat.lt_or_ge 2 w.heap.size with h' | h'
  · exact h'
  · simp [World.cell?, Array.getElem?_eq_none h'] at h2
theorem Vrs.below {w w' : World} {n : Nat} (h : Vrs w) (hb : Below n w w') (hn : 2 < n) : Vrs w' := by
  obtain ⟨e1, e2, h1, g1, h2, g2⟩ := h.ex
  exact ⟨e1, e2, (RowKit.Below.cell hb (p := ⟨1, 0, none⟩) (by show 1 < n; omega)).trans h1, g1, (RowKit.Below.cell hb (p := ⟨2, 0, none⟩) hn).trans h2, g2⟩
set_option maxHeartbeats 2000000 in
theorem pu16_ok (t : ByteArray) (ht : t.size = 2) (u : Nat) (hu : pH 0 t.data.toList = some u) (w : World) :
    Calls Tryd.prog 75 #[.string t, .int .i64 16, .int .i64 8] w fun e w' => e = .returned (.tuple #[.int .u64 u, .nilIface]) ∧ Below w.heap.size w w' := by
  have I := ipu16 t ht w
  rw [hu] at I
  unfold puT at I
  have HI := Lib.hid I
  have HB := Lib.hid (Lib.bytesWorld_below w 5 t)
  clear I hu
  generalize Lib.bytesWorld w 5 t = W at *
  go_enter Tryd.func75, Tryd.ntmps75
  go_wp2_with (go_at_call 79; (with_reducible refine (HI.out).mono ?_); rintro e w3 ⟨rfl, rfl⟩)
  go_ret2
  first | exact ⟨rfl, HB.out⟩ | exact HB.out
set_option maxHeartbeats 2000000 in
theorem pu16_no (t : ByteArray) (ht : t.size = 2) (hu : pH 0 t.data.toList = none) (w : World) (hE : Vrs w) :
    Calls Tryd.prog 75 #[.string t, .int .i64 16, .int .i64 8] w fun e w' => ∃ N, e = .returned (.tuple #[.int .u64 0, .iface 101 (.pointer (some ⟨N, 0, none⟩))]) ∧ Below w.heap.size w w' := by
  have I := ipu16 t ht w
  rw [hu] at I
  unfold puT at I
  have HI := Lib.hid I
  have HB := Lib.hid (Lib.bytesWorld_below w 5 t)
  have hE1 := hE.below HB.out hE.lt
  clear I hu
  generalize Lib.bytesWorld w 5 t = W at *
  obtain ⟨ev1, _, h1, g1, _⟩ := hE1.ex
  have TE : Calls Tryd.prog 80 #[.string ⟨#[80, 97, 114, 115, 101, 85, 105, 110, 116]⟩, .string t, .int .i64 16, .int .i64 8, .iface 99 (.int .i64 2)] W fun e w' => ∃ N, e = .returned (.iface 101 (.pointer (some ⟨N, 0, none⟩))) ∧ W.heap.size ≤ N ∧ w'.heap[N]? = some (.cells #[.string ⟨#[80, 97, 114, 115, 101, 85, 105, 110, 116]⟩, .string t, ev1] 105 (0, 0)) ∧ Below W.heap.size W w' :=
    AnyPu.strconv_toError_syntax { Tryd.laysPu14 with } ⟨#[80, 97, 114, 115, 101, 85, 105, 110, 116]⟩ t 16 8 ev1 W (by omega) h1 g1
  have HT := Lib.hid TE
  clear TE h1 g1
  go_enter Tryd.func75, Tryd.ntmps75
  go_wp2_with (first | (go_at_call 79; (with_reducible refine (HI.out).mono ?_); rintro e w3 ⟨rfl, rfl⟩) | (go_at_call 80; (with_reducible refine (HT.out).mono ?_); rintro e w4 ⟨N, rfl, h1, h2, h3⟩))
  go_ret2
  exact ⟨N, rfl, HB.out.trans (h3.mono HB.out.size)⟩

set_option maxHeartbeats 2000000 in
theorem decimal_any (b : Nat) (s : ByteArray) (a ln : Nat) (w : World) (hs : s.size ≤ 70000) (ha : a < s.size) (hd : dgt s[a] = true) (hSc : Sc b s a ln w) (hE : Vrs w) :
    Calls Tryd.prog 67 #[.pointer (some ⟨b, 0, none⟩)] w fun e w' => e = .returned (.tuple #[.int .u8 (if decV (s.data.toList.drop a) ≤ 255 then (decV (s.data.toList.drop a) : Int) else 0), .int .i64 (if decV (s.data.toList.drop a) ≤ 255 then 0 else 6)]) ∧ Sc b s (a + dn (s.data.toList.drop a)) ln w' ∧ w.grownBy w' (some b) := by
  have hmf : ∀ (fn : Fn) (first cap : Array Value) (w : World), (Instr.makeFunc fn first cap).run Tryd.prog w = .ok (.func fn first cap) w := fun _ _ _ _ => rfl
  have hll : s.data.toList.length = s.size := by simp
  have hb := hSc.lt
  have hbn : Below w.heap.size w (w.alloc (.cells #[.int .i64 3] 3)) := (Below.refl _ _).alloc (Nat.le_refl _) _
  have T0 := take_dec b w.heap.size s a ln w (w.alloc (.cells #[.int .i64 3] 3)) (by omega) (by omega) (hSc.kept (grow_below hbn none) (by simp)) (heap_alloc_new w _) (Nat.le_refl _) hb (grow_below hbn _)
  have hne : (s.data.toList.drop a).take (dn (s.data.toList.drop a)) ≠ [] := by
    have h1 : s.data.toList.drop a = s[a] :: s.data.toList.drop (a + 1) := by rw [List.drop_eq_getElem_cons (by omega)]; rfl
    unfold dn
    rw [h1, List.take_succ_cons, cntP_yes hd, List.take_succ_cons]
    simp
  have hall : ∀ c ∈ (s.data.toList.drop a).take (dn (s.data.toList.drop a)), dgt c = true := by
    intro c hc
    refine cntP_take dgt ((s.data.toList.drop a).take 3) c ?_
    have hle := cntP_le dgt ((s.data.toList.drop a).take 3)
    rw [List.length_take] at hle
    rw [List.take_take, show min (cntP dgt ((s.data.toList.drop a).take 3)) 3 = cntP dgt ((s.data.toList.drop a).take 3) by omega]
    exact hc
  have hsz : (bs ((s.data.toList.drop a).take (dn (s.data.toList.drop a)))).size ≤ 3 := by
    rw [bs_size, List.length_take]
    have hle := cntP_le dgt ((s.data.toList.drop a).take 3)
    rw [List.length_take] at hle
    unfold dn
    omega
  have hpu := pu8_dv hne hall
  change _ = if decV (s.data.toList.drop a) ≤ 255 then Lib.NumEnd.ok (decV (s.data.toList.drop a)) else .range at hpu
  rw [← bs_list ((s.data.toList.drop a).take (dn (s.data.toList.drop a)))] at hpu
  generalize bs ((s.data.toList.drop a).take (dn (s.data.toList.drop a))) = x at *
  generalize dn (s.data.toList.drop a) = n at *
  generalize decV (s.data.toList.drop a) = v at *
  have HT := Lib.hid T0
  clear T0 hne hall hbn
  by_cases hv : v ≤ 255
  · rw [if_pos hv] at hpu
    rw [if_pos hv, if_pos hv]
    have HP := Lib.hid fun W => Tryd.strconv_ParseUint_10_at8_ok x (by omega) v hpu W
    have hv0 : 0 ≤ (v : Int) := by omega
    have hv1 : (v : Int) ≤ 255 := by omega
    clear hpu hv
    generalize (v : Int) = z at *
    go_enter Tryd.func67, Tryd.ntmps67
    go_wp2_with (first | (go_at_call 32; (with_reducible refine (HT.out).mono ?_); rintro e w3 ⟨rfl, h3, g3⟩) | (go_at_call 75; (with_reducible refine (HP.out _).mono ?_); rintro e w4 ⟨rfl, h4⟩))
    have hb4 : Below w3.heap.size w3 w4 := by
      rcases h4 with rfl | rfl
      · exact Below.refl _ _
      · exact Lib.bytesWorld_below w3 _ x
    go_ret2
    exact ⟨rfl, h3.kept (grow_below hb4 none) (by simp), World.grownBy.trans g3 (grow_below hb4 _)⟩
  · rw [if_neg hv] at hpu
    rw [if_neg hv, if_neg hv]
    have HP := Lib.hid fun W (hE : Vrs W) => (by
      obtain ⟨_, ev2, _, _, h2, g2⟩ := hE.ex
      exact (Tryd.strconv_ParseUint_10_at8_range x (by omega) hpu ev2 W h2 g2).mono fun e w' ⟨N, h1, _, _, h3⟩ => ⟨N, h1, h3⟩ : Calls Tryd.prog 75 #[.string x, .int .i64 10, .int .i64 8] W fun e w' => ∃ N, e = .returned (.tuple #[.int .u64 255, .iface 101 (.pointer (some ⟨N, 0, none⟩))]) ∧ Below W.heap.size W w')
    clear hpu hv
    have HE := Lib.hid fun w' (h : w.grownBy w' (some b)) => hE.kept h (fun b' e => by cases e; exact ⟨_, _, _, hSc⟩)
    go_enter Tryd.func67, Tryd.ntmps67
    go_wp2_with (first | (go_at_call 32; (with_reducible refine (HT.out).mono ?_); rintro e w3 ⟨rfl, h3, g3⟩) | (go_at_call 75; (with_reducible refine (HP.out _ (HE.out _ g3)).mono ?_); rintro e w4 ⟨N, rfl, hb4⟩))
    go_ret2
    exact ⟨rfl, h3.kept (grow_below hb4 none) (by simp), World.grownBy.trans g3 (grow_below hb4 _)⟩

set_option maxHeartbeats 4000000 in
set_option maxRecDepth 100000 in
theorem hex_any (b : Nat) (s : ByteArray) (a ln : Nat) (w : World) (hs : s.size ≤ 70000) (ha : a ≤ s.size) (hSc : Sc b s a ln w) (hE : Vrs w) :
    Calls Tryd.prog 68 #[.pointer (some ⟨b, 0, none⟩)] w fun e w' => e = .returned (.tuple #[.int .u8 (((hexR (s.data.toList.drop a)).getD 0 : Nat) : Int), .int .i64 (if (hexR (s.data.toList.drop a)).isSome = true then 0 else 4)]) ∧ Sc b s (if (hexR (s.data.toList.drop a)).isSome = true then a + 2 else a) ln w' ∧ w.grownBy w' (some b) := by
  have hll : s.data.toList.length = s.size := by simp
  have k0 := hSc.c0
  have k1 := hSc.c1
  have f1 := hSc.fz 1
  have hc0 : 0 ≤ (a : Int) := by omega
  by_cases h2 : s.size - a < 2
  · have hr : hexR (s.data.toList.drop a) = none := by unfold hexR; rw [if_pos (by rw [List.length_drop]; omega)]
    rw [hr]
    have h2' : (s.size : Int) - (a : Int) < 2 := by omega
    have HS := Lib.hid fun n => hSc.drewN n
    go_enter Tryd.func68, Tryd.ntmps68
    go_wp2
    go_quiet (fail)
    go_wp2
    go_ret2
    exact ⟨rfl, HS.out _, grow_drewN (World.grownBy.refl _ _) _⟩
  · have h2' : ¬ (s.size : Int) - (a : Int) < 2 := by omega
    have hr : hexR (s.data.toList.drop a) = pH 0 (s.extract a (a + 2)).data.toList := by
      unfold hexR; rw [if_neg (by rw [List.length_drop]; omega), ext_bs, bs_list, show a + 2 - a = 2 by omega]
    have hxs : (s.extract a (a + 2)).size = 2 := by rw [ext_bs, bs_size, List.length_take, List.length_drop]; omega
    have hc1 : (a : Int) + 2 ≤ (s.size : Int) := by omega
    rw [hr]
    have H1 := fun W u h => pu16_ok (s.extract a (a + 2)) hxs u h W
    have H2 := fun W h => pu16_no (s.extract a (a + 2)) hxs h W
    obtain ⟨m, hm⟩ : ∃ m, a + 2 = m := ⟨_, rfl⟩
    have hm1 : (a : Int) + 2 = (m : Int) := by omega
    have hm2 : (a : Int) ≤ (m : Int) := by omega
    have hm3 : (m : Int) ≤ (s.size : Int) := by omega
    rw [hm] at H1 H2 hxs ⊢
    rw [hm] at hr
    clear hc1
    have hm4 : IntKind.i64.wrap (m : Int) = (m : Int) := by simp only [IntKind.wrap]; simp [IntKind.signed, IntKind.bits]; omega
    cases hp : pH 0 (s.extract a m).data.toList with
    | some u =>
      have hu : u ≤ 255 := by
        have hl : (s.extract a m).data.toList.length = 2 := by rw [← hxs]; exact Array.length_toList
        match hxl : (s.extract a m).data.toList, hl with
        | [c, d], _ =>
          rw [hxl] at hp
          unfold pH at hp
          cases h3 : hxv c with
          | none => rw [h3] at hp; cases hp
          | some e =>
            rw [h3] at hp
            simp only [] at hp
            unfold pH at hp
            cases h4 : hxv d with
            | none => rw [h4] at hp; cases hp
            | some g =>
              rw [h4] at hp
              simp only [pH] at hp
              injection hp with hp
              have := hxv_lt h3
              have := hxv_lt h4
              omega
      have HP := Lib.hid fun W => H1 W u hp
      have hu0 : 0 ≤ (u : Int) := by omega
      have hu1 : (u : Int) ≤ 255 := by omega
      clear H1 H2 hp hr hu
      show Calls _ _ _ _ fun e w' => e = .returned (.tuple #[.int .u8 (u : Int), .int .i64 0]) ∧ Sc b s m ln w' ∧ w.grownBy w' (some b)
      generalize (u : Int) = z at *
      have HS := Lib.hid hSc
      go_enter Tryd.func68, Tryd.ntmps68
      go_wp2
      go_quiet (fail)
      go_wp2
      go_region_with (first | (go_at_call 75; (with_reducible refine (HP.out _).mono ?_); rintro e w4 ⟨rfl, hb4⟩))
      all_goals (
        have hb4 := ‹Below _ _ _›
        have h4 := (HS.out.drewN nq).drew.kept (grow_below hb4 none) (by simp)
        have q1 := h4.c1
        have g1 := h4.fz 1
        have HB4 := Lib.hid (grow_below hb4 (some b))
        have HS4 := Lib.hid (h4.set1 m (.int .i64 (m : Int)) rfl)
        clear hb4 h4
        go_wp2
        go_ret2
        exact ⟨rfl, HS4.out, grow_set (World.grownBy.trans (grow_drew (grow_drewN (World.grownBy.refl _ _) _)) HB4.out) _ _⟩)
    | none =>
      have HP := Lib.hid fun W hE => H2 W hp hE
      clear H1 H2 hp hr
      show Calls _ _ _ _ fun e w' => e = .returned (.tuple #[.int .u8 0, .int .i64 4]) ∧ Sc b s a ln w' ∧ w.grownBy w' (some b)
      have HS := Lib.hid hSc
      have HE := Lib.hid fun n => ((hE.heap (World.heap_drewN w n)).heap (w' := (w.drewN n).drew) rfl)
      go_enter Tryd.func68, Tryd.ntmps68
      go_wp2
      go_quiet (fail)
      go_wp2
      go_region_with (first | (go_at_call 75; (with_reducible refine (HP.out _ ?_).mono ?_); exact HE.out _; rintro e w4 ⟨N, rfl, hb4⟩))
      all_goals (
        have hb4 := ‹Below _ _ _›
        have HS4 := Lib.hid ((HS.out.drewN nq).drew.kept (grow_below hb4 none) (by simp))
        have HB4 := Lib.hid (grow_below hb4 (some b))
        clear hb4
        go_wp2
        go_ret2
        exact ⟨rfl, HS4.out, World.grownBy.trans (grow_drew (grow_drewN (World.grownBy.refl _ _) _)) HB4.out⟩)
end Go.Proofs.YtbcbddglgfakpaaDoor
