/- Layer 12: the functions of ordered maps (5). -/
import Derived.Test.YtaaelhhiceildaaOdrE
import Derived.Deep.DeepCutAuto
import Derived.Deep.CutBlock
import Derived.BigQuiet
import Derived.Maps.AppendAt
import Derived.Laws.MakeOwn
import Derived.OwnWalk
namespace Go.Proofs.Ytaaelhhiceildaa
open Go.RowKit Go.Joins M1
set_option linter.unusedVariables false
def vC (v : V5) : List Value := [.int .i64 v.k, .int .i64 v.p, .int .i64 v.q, .string v.s, .int .i64 v.r]
theorem vC_len (v : V5) : (vC v).length = 5 := rfl
theorem info_val : (Try.prog.info? 26).map (fun i => (i.zero, i.size, i.bytes)) = some (some (.agg #[.int .i64 0, .int .i64 0, .int .i64 0, .string ⟨#[]⟩, .int .i64 0]), 5, 48) := by kernel_rfl
theorem keys_nil (w : World) :
    Calls Try.prog 61 #[.pointer none] w fun e w' => e = .returned (.slice none 0 0) ∧ w = w' := by
  go_enter Try.func61, Try.ntmps61
  go_wp2
  go_ret
  exact ⟨rfl, rfl⟩
def ksF (L : List Sl) : List V5 := (L.filter liveB).map (·.key)
theorem ksF_step {L : List Sl} {k : Nat} (hk : k < L.length) : ksF (L.take (k + 1)) = if liveB L[k] then ksF (L.take k) ++ [L[k].key] else ksF (L.take k) := by
  unfold ksF
  rw [List.take_succ_eq_append_getElem hk, List.filter_append, List.map_append]
  by_cases h : liveB L[k] = true <;> simp [h]
theorem ksF_len (L : List Sl) (k : Nat) : (ksF (L.take k)).length ≤ k := by
  unfold ksF
  rw [List.length_map]
  exact Nat.le_trans (List.length_filter_le _ _) (by rw [List.length_take]; omega)
theorem vC_at (x : V5) (W : World) (n : Nat) (hn : n = W.heap.size) : ∀ j u, (vC x)[j]? = some u → (W.alloc (.cells #[.int .i64 x.k, .int .i64 x.p, .int .i64 x.q, .string x.s, .int .i64 x.r] 26)).cell? ((⟨n, 0, none⟩ : Addr).add j) = some u := by
  subst hn
  intro j u hu
  have ha : (⟨W.heap.size, 0, none⟩ : Addr).add j = ⟨W.heap.size, j, none⟩ := by cases j <;> simp [Addr.add]
  rw [ha, Blk.cell (Blk.new W 26 #[.int .i64 x.k, .int .i64 x.p, .int .i64 x.q, .string x.s, .int .i64 x.r] _ rfl)]
  simpa [vC] using hu
theorem vC_one (x : V5) : ∀ u ∈ vC x, u.oneCell' = true := by
  intro u hu
  simp [vC] at hu
  rcases hu with rfl | rfl | rfl | rfl | rfl <;> rfl
set_option maxHeartbeats 4000000 in
theorem keys_any (B b : Nat) (v m : Value) (L : List Sl) (w : World) (h : Om B b v m L w) (hL : L.length ≤ 1000000) :
    Calls Try.prog 61 #[.pointer (some ⟨b, 0, none⟩)] w fun e w' => (∃ v', e = .returned v' ∧ w'.ownsRow w.heap.size 26 5 v' (ksF L).length ((ksF L).flatMap vC)) ∧ Below w.heap.size w w' := by
  obtain ⟨p, cap, rfl, hp⟩ := h.form
  obtain ⟨c0, c1, c2, f0, f1, f2, hb⟩ := h.cells
  obtain ⟨i0, hi0, jz0, jz1, jz2⟩ := info_parts info_val
  have hcl := cnt_le L
  obtain ⟨W1, hr, hown, hg1⟩ := run_make_own (P := Try.prog) w w.heap.size 45 26 i0 _ 5 Try.underlying45 hi0 jz0 jz1 .i64 .i64 (cnt L) (by rw [jz2]; omega) (by unfold maxLen; omega) (Nat.le_refl _)
  have HB1 := Lib.hid ((Below.refl w.heap.size w).grown hg1 (Nat.le_refl _) (fun k e => by cases e))
  have HO := Lib.hid h
  have HL := Lib.hid hL
  have HP := Lib.hid hp
  have HOW : Hid (W1.ownsRow w.heap.size 26 5 (.slice (some ⟨w.heap.size, 0, none⟩) 0 (cnt L)) (ksF (L.take 0)).length ((ksF (L.take 0)).flatMap vC)) := Lib.hid hown
  obtain ⟨d0, d1, d2, _, _, _, db⟩ := (h.keep (Ch.of_below HB1.out)).cells
  clear h hp hown hg1 hcl
  go_enter Try.func61, Try.ntmps61
  go_wp2
  go_loopw [3, 18] (fun v3 v18 wr => ∃ (k : Nat) (p3 : Option Addr) (c3 : Nat), k ≤ L.length ∧ v3 = .slice p3 (ksF (L.take k)).length c3 ∧ v18 = .int .i64 (k : Int) ∧ Hid (wr.ownsRow w.heap.size 26 5 (.slice p3 (ksF (L.take k)).length c3) (ksF (L.take k)).length ((ksF (L.take k)).flatMap vC)) ∧ Hid (Below w.heap.size w wr)) (fun _ v18 _ => L.length - (intOf v18).toNat)
  case atStart => exact ⟨0, some ⟨w.heap.size, 0, none⟩, cnt L, Nat.zero_le _, rfl, rfl, HOW, HB1⟩
  case round =>
    obtain ⟨k, p3, c3, hk, rfl, rfl, HV, HB⟩ := hrel
    rename World => W0
    by_cases hlt : k < L.length
    · have hlt' : (k : Int) < (L.length : Int) := by omega
      obtain ⟨g, rfl⟩ := HP.out (by omega)
      have ho0 := HO.out.below HB.out
      obtain ⟨s0, s1, s2, s3, s4, s5, s6, s7, s8, s9, s10⟩ := ho0.slot k hlt
      have hg := (own_lo ho0.row (mem_ob.2 rfl)).2
      have hst := ksF_step hlt
      have hln := ksF_len L k
      have hsz := HB.out.size
      clear ho0
      cases hlv : liveB L[k] with
      | true =>
        have hz : ((L[k].bh : Int) == 0) = true := by unfold liveB at hlv; rw [decide_eq_true_eq] at hlv; rw [hlv]; rfl
        rw [hlv, if_pos rfl] at hst
        generalize (L[k].bh : Int) = bh at *
        clear hlv
        have HST := Lib.hid hst
        have HLN := Lib.hid hln
        have HH : Hid ((((W0.alloc (.cells #[.int .i64 L[k].key.k, .int .i64 L[k].key.p, .int .i64 L[k].key.q, .string L[k].key.s, .int .i64 L[k].key.r, .int .i64 L[k].val.k, .int .i64 L[k].val.p, .int .i64 L[k].val.q, .string L[k].val.s, .int .i64 L[k].val.r, .int .i64 bh] 78)).alloc (.cells #[.int .i64 L[k].key.k, .int .i64 L[k].key.p, .int .i64 L[k].key.q, .string L[k].key.s, .int .i64 L[k].key.r] 26)).ownsRow w.heap.size 26 5 (.slice p3 (ksF (L.take k)).length c3) (ksF (L.take k)).length ((ksF (L.take k)).flatMap vC))) := Lib.hid ((((Ch.refl [] W0).alloc _).alloc _).ownB HV.out (by simp))
        clear hst hln
        clear HV
        generalize hN : (ksF (L.take k)).length = N at *
        have HN := Lib.hid hN
        clear hN
        go_wp2_with (at_builtin; refine wpList_append_own_at _ rfl _ _ 45 rfl w.heap.size 26 i0 (.agg #[.int .i64 0, .int .i64 0, .int .i64 0, .string ⟨#[]⟩, .int .i64 0]) 5 48 Try.underlying45 hi0 jz0 jz1 jz2 rfl (by decide) _ _ _ rfl HH.out ⟨W0.heap.size + 1, 0, none⟩ 1 1 (vC L[k].key) rfl rfl (vC_at L[k].key _ _ (by simp)) (vC_one _) (by unfold maxLen; have := HLN.out; have := HL.out; omega) (by have := HLN.out; have := HL.out; omega) (by simp; omega) ?_)
        intro v5 w5 ho5 hg5 _ _
        obtain ⟨p5, c5, rfl⟩ := ownB_form ho5
        have HB5 : Hid (Below w.heap.size w w5) := Lib.hid (((HB.out.alloc HB.out.size _).alloc (by simp; omega) _).grown hg5 (by simp; omega) (fun q e => (own_lo HH.out (mem_ob.2 e)).1))
        have HO5 : Hid (w5.ownsRow w.heap.size 26 5 (.slice p5 (N + 1) c5) (ksF (L.take (k + 1))).length ((ksF (L.take (k + 1))).flatMap vC)) := Lib.hid (by
          rw [HST.out, List.length_append, List.flatMap_append, HN.out]; simpa using ho5)
        clear ho5 hg5
        go_wp2
        go_roundw
        case rel => exact ⟨k + 1, p5, c5, by omega, by rw [HST.out, List.length_append, HN.out]; rfl, by go_num, by have := HO5.out; rw [show N + 1 = (ksF (L.take (k + 1))).length from by rw [HST.out, List.length_append, HN.out]; rfl] at this; exact Lib.hid this, HB5⟩
        case measure => simp [intOf]; omega
      | false =>
        have hz : ((L[k].bh : Int) == 0) = false := by
          unfold liveB at hlv; rw [decide_eq_false_iff_not] at hlv; rw [beq_eq_false_iff_ne]; omega
        rw [hlv] at hst
        simp only [Bool.false_eq_true, if_false] at hst
        generalize (L[k].bh : Int) = bh at *
        have HH : Hid (((W0.alloc (.cells #[.int .i64 L[k].key.k, .int .i64 L[k].key.p, .int .i64 L[k].key.q, .string L[k].key.s, .int .i64 L[k].key.r, .int .i64 L[k].val.k, .int .i64 L[k].val.p, .int .i64 L[k].val.q, .string L[k].val.s, .int .i64 L[k].val.r, .int .i64 bh] 78)).ownsRow w.heap.size 26 5 (.slice p3 (ksF (L.take (k + 1))).length c3) (ksF (L.take (k + 1))).length ((ksF (L.take (k + 1))).flatMap vC))) := Lib.hid (by rw [hst]; exact ((Ch.refl [] W0).alloc _).ownB HV.out (by simp))
        have HB5 : Hid (Below w.heap.size w (W0.alloc (.cells #[.int .i64 L[k].key.k, .int .i64 L[k].key.p, .int .i64 L[k].key.q, .string L[k].key.s, .int .i64 L[k].key.r, .int .i64 L[k].val.k, .int .i64 L[k].val.p, .int .i64 L[k].val.q, .string L[k].val.s, .int .i64 L[k].val.r, .int .i64 bh] 78))) := Lib.hid (HB.out.alloc HB.out.size _)
        have HST := Lib.hid hst
        clear hlv hst hln
        go_wp2
        go_roundw
        case rel => exact ⟨k + 1, p3, c3, by omega, by rw [HST.out], by go_num, HH, HB5⟩
        case measure => simp [intOf]; omega
    · have hlt' : ¬ (k : Int) < (L.length : Int) := by omega
      have HV2 : Hid (W0.ownsRow w.heap.size 26 5 (.slice p3 (ksF (L.take k)).length c3) (ksF L).length ((ksF L).flatMap vC)) := Lib.hid (by have := HV.out; rw [show L.take k = L from by rw [show k = L.length by omega, List.take_length]] at this ⊢; exact this)
      go_wp2
      go_ret
      exact ⟨⟨_, rfl, HV2.out⟩, HB.out⟩
end Go.Proofs.Ytaaelhhiceildaa
