/- Layer 12: the functions of ordered maps (7). -/
import Derived.Test.YtaaelhhiceildaaOdrH
import Derived.Deep.DeepCutAuto
import Derived.Deep.CutBlock
import Derived.BigQuiet
import Derived.Maps.AppendAt
import Derived.Laws.MakeOwn
import Derived.OwnWalk
import Derived.RegionTactic
import Derived.Deep.RegionLaw
import Derived.Lib.ItoaWalk
import Derived.StillTailTactics
namespace Go.Proofs.Ytaaelhhiceildaa
open Go.RowKit Go.Joins M1
set_option linter.unusedVariables false
/-- The map while the first k slots are gone through. -/
def dlF (L : List Sl) (k : Nat) (x : V5) : Option Int := match lastI L x with
  | none => none
  | some j => if j < k then (match L[j]? with
    | some s => if liveB s then some ((kept (L.take j)).length : Int) else none
    | none => none) else some (j : Int)
theorem dl_zero (L : List Sl) (x : V5) : dlF L 0 x = (lastI L x).map (fun i => (i : Int)) := by
  unfold dlF
  cases lastI L x with
  | none => rfl
  | some j => simp
theorem dl_live {L : List Sl} (hI : Inv L) {k : Nat} (hk : k < L.length) (hb : liveB L[k] = true) (x : V5) : dlF L (k + 1) x = if x = L[k].key then some ((kept (L.take k)).length : Int) else dlF L k x := by
  have hl := hI.live k hk ((liveB_iff _).1 hb)
  by_cases hx : x = L[k].key
  · subst hx
    rw [if_pos rfl]
    unfold dlF
    rw [hl]
    simp [hk, hb]
  · rw [if_neg hx]
    unfold dlF
    cases hj : lastI L x with
    | none => rfl
    | some j =>
      obtain ⟨h1, h2, _⟩ := lastI_some hj
      have hne : j ≠ k := fun e => by subst e; exact hx h2.symm
      simp only
      by_cases hjk : j < k
      · rw [if_pos hjk, if_pos (by omega)]
      · rw [if_neg hjk, if_neg (by omega)]
theorem dl_gone {L : List Sl} {k : Nat} (hk : k < L.length) (hb : liveB L[k] = false) : ∃ j, lastI L L[k].key = some j ∧ dlF L k L[k].key = some (j : Int) ∧ (∀ x, dlF L (k + 1) x = if x = L[k].key ∧ j = k then none else dlF L k x) := by
  cases hj : lastI L L[k].key with
  | none => exact absurd rfl (lastI_none hj _ (List.getElem_mem hk))
  | some j =>
    obtain ⟨h1, h2, h3⟩ := lastI_some hj
    have hkj : k ≤ j := by
      rcases Nat.lt_or_ge j k with h | h
      · exact absurd rfl (h3 k hk h)
      · exact h
    refine ⟨j, rfl, ?_, fun x => ?_⟩
    · unfold dlF; rw [hj]; simp; omega
    · by_cases hx : x = L[k].key
      · subst hx
        unfold dlF
        rw [hj]
        simp only
        by_cases e : j = k
        · subst e
          simp [hk, hb]
        · rw [if_neg (by omega), if_neg (fun h => e h.2), if_neg (by omega)]
      · rw [if_neg (fun h => hx h.1)]
        unfold dlF
        cases hy : lastI L x with
        | none => rfl
        | some i =>
          obtain ⟨g1, g2, _⟩ := lastI_some hy
          have hne : i ≠ k := fun e => by subst e; exact hx g2.symm
          simp only
          by_cases hik : i < k
          · rw [if_pos hik, if_pos (by omega)]
          · rw [if_neg hik, if_neg (by omega)]
theorem kept_at {L : List Sl} {j : Nat} (hj : j < L.length) (hb : liveB L[j] = true) : ∃ h : (kept (L.take j)).length < (kept L).length, (kept L)[(kept (L.take j)).length] = L[j] := by
  have e : kept L = kept (L.take j) ++ (L[j] :: kept (L.drop (j + 1))) := by
    unfold kept
    conv => lhs; rw [← List.take_append_drop j L, List.drop_eq_getElem_cons hj]
    rw [List.filter_append, List.filter_cons, if_pos hb]
  refine ⟨by rw [e]; simp, ?_⟩
  simp only [e]
  rw [List.getElem_append_right (Nat.le_refl _)]
  simp
theorem dl_end {L : List Sl} (hI : Inv L) (x : V5) : dlF L L.length x = (lastI (kept L) x).map (fun i => (i : Int)) := by
  unfold dlF
  cases hj : lastI L x with
  | none =>
    rw [show lastI (kept L) x = none from lastI_no (fun s hs => lastI_none hj s (List.mem_filter.1 hs).1)]
    rfl
  | some j =>
    obtain ⟨h1, h2, _⟩ := lastI_some hj
    simp only [h1, if_true, List.getElem?_eq_getElem h1]
    cases hb : liveB L[j] with
    | true =>
      obtain ⟨q1, q2⟩ := kept_at h1 hb
      have := lastI_kept (pair_keys hI.last) _ q1
      rw [q2, h2] at this
      rw [this]; rfl
    | false =>
      rw [last_none_of_kept x hI (fun i hi => by
        rw [hj] at hi
        have := Option.some.inj hi
        subst this
        exact ⟨h1, fun e => by rw [(liveB_iff _).2 e] at hb; cases hb⟩)]
      simp
theorem info_slot : (Try.prog.info? 78).map (fun i => (i.zero, i.size, i.bytes)) = some (some (.agg #[.int .i64 0, .int .i64 0, .int .i64 0, .string ⟨#[]⟩, .int .i64 0, .int .i64 0, .int .i64 0, .int .i64 0, .string ⟨#[]⟩, .int .i64 0, .int .i64 0]), 11, 104) := by kernel_rfl
def slA (s : Sl) : Array Value := #[.int .i64 s.key.k, .int .i64 s.key.p, .int .i64 s.key.q, .string s.key.s, .int .i64 s.key.r, .int .i64 s.val.k, .int .i64 s.val.p, .int .i64 s.val.q, .string s.val.s, .int .i64 s.val.r, .int .i64 s.bh]
theorem slC_at (s : Sl) (W : World) (n : Nat) (hn : n = W.heap.size) : ∀ j u, (slC s)[j]? = some u → (W.alloc (.cells (slA s) 78)).cell? ((⟨n, 0, none⟩ : Addr).add j) = some u := by
  subst hn
  intro j u hu
  have ha : (⟨W.heap.size, 0, none⟩ : Addr).add j = ⟨W.heap.size, j, none⟩ := by cases j <;> simp [Addr.add]
  rw [ha, Blk.cell (Blk.new W 78 (slA s) _ rfl)]
  simpa [slA, slC] using hu
theorem slC_one (s : Sl) : ∀ u ∈ slC s, u.oneCell' = true := by
  intro u hu
  simp [slC] at hu
  rcases hu with rfl | rfl | rfl | rfl | rfl | rfl | rfl | rfl | rfl | rfl | rfl <;> rfl
set_option maxHeartbeats 8000000 in
theorem drop_any (B b : Nat) (v m : Value) (L : List Sl) (w : World) (h : Om B b v m L w) (hL : L.length ≤ 1000000) (hBw : B ≤ w.heap.size) (h0 : 0 < L.length) :
    Calls Try.prog 72 #[.pointer (some ⟨b, 0, none⟩)] w fun e w' => e = .returned (.tuple #[]) ∧ (∃ v', Om B b v' m (kept L) w' ∧ ∀ g ∈ omS b v' m, g ∈ omS b v m ∨ w.heap.size ≤ g) ∧ Ch (omS b v m) w w' := by
  obtain ⟨p, cap, rfl, hp⟩ := h.form
  obtain ⟨g, rfl⟩ := hp h0
  obtain ⟨c0, c1, c2, f0, f1, f2, hb⟩ := h.cells
  obtain ⟨i0, hi0, jz0, jz1, jz2⟩ := info_parts info_slot
  have hcl := cnt_le L
  obtain ⟨l0, hl1, hl2, hl3⟩ := h.mp
  obtain ⟨g', rfl, hgB, hm⟩ : ∃ g', m = .map (some g') ∧ B ≤ g' ∧ Mp g' l0 w := by
    rcases hl3 with ⟨_, rfl⟩ | h3
    · have := hl1 L[0].key
      cases hj : lastI L L[0].key with
      | none => exact absurd rfl (lastI_none hj _ (List.getElem_mem h0))
      | some j => rw [hj] at this; cases this
    · exact h3
  obtain ⟨W1, hr, hown, hg1⟩ := run_make_own (P := Try.prog) w w.heap.size 69 78 i0 _ 11 Try.underlying69 hi0 jz0 jz1 .i64 .i64 (cnt L + 1) (by rw [jz2]; omega) (by unfold maxLen; omega) (Nat.le_refl _)
  have hrw : IntKind.i64.wrap ((cnt L : Int) + 1) = (cnt L : Int) + 1 := IntWalk.i64_in _ (by omega)
  rw [show ((cnt L + 1 : Nat) : Int) = (cnt L : Int) + 1 from by omega] at hr
  obtain ⟨p1, p2, p3⟩ := h.apart
  have hgg : g' ≠ b ∧ g' ≠ g := ⟨p2 g' (by simp [mb]), fun e => p3 g' (by simp [mb]) (mem_ob.2 (by rw [e]; rfl))⟩
  have hc1 : Ch [g'] w W1 := (Ch.of_grown (S := []) hg1 (fun x e => by cases e)).mono (by simp)
  have HC1 := Lib.hid hc1
  have HI := Lib.hid h.inv
  have HO := Lib.hid h
  have HL := Lib.hid hL
  have HM1 : Hid (∃ l, (∀ x, look l x = dlF L 0 x) ∧ Uniq l ∧ Mp g' l W1) := Lib.hid ⟨l0, fun x => by rw [hl1 x, dl_zero], hl2, hm.ch (Ch.of_grown (S := []) hg1 (fun x e => by cases e)) (by simp)⟩
  have HOW : Hid (W1.ownsRow w.heap.size 78 11 (.slice (some ⟨w.heap.size, 0, none⟩) 0 (cnt L + 1)) (kept (L.take 0)).length ((kept (L.take 0)).flatMap slC)) := Lib.hid hown
  have HGG := Lib.hid hgg
  obtain ⟨d0, d1, d2, _, _, _, db⟩ := (h.keep (Ch.of_grown (S := []) hg1 (fun x e => by cases e))).cells
  have HGL : Hid (g' < w.heap.size) := Lib.hid hm.lt
  clear h hp hown hg1 hl1 hl2 hl3 hm p1 p2 p3 hc1 hcl
  go_enter Try.func72, Try.ntmps72
  go_wp2
  go_loopw [2, 16] (fun v2 v16 wr => ∃ (k : Nat) (p3 : Option Addr) (c3 : Nat), k ≤ L.length ∧ v2 = .slice p3 (kept (L.take k)).length c3 ∧ v16 = .int .i64 (k : Int) ∧ Hid (wr.ownsRow w.heap.size 78 11 (.slice p3 (kept (L.take k)).length c3) (kept (L.take k)).length ((kept (L.take k)).flatMap slC)) ∧ Hid (∃ l, (∀ x, look l x = dlF L k x) ∧ Uniq l ∧ Mp g' l wr) ∧ Hid (Ch [g'] w wr)) (fun _ v16 _ => L.length - (intOf v16).toNat)
  case atStart => exact ⟨0, some ⟨w.heap.size, 0, none⟩, cnt L + 1, Nat.zero_le _, rfl, rfl, HOW, HM1, HC1⟩
  case round =>
    obtain ⟨k, p3, c3, hk, rfl, rfl, HV, HM, HC⟩ := hrel
    rename World => W0
    have hbk := HO.out.blk.ch HC.out (by simp; exact fun e => HGG.out.1 e.symm)
    have hrow := HC.out.ownB HO.out.row (fun x hx => by simp [Go.Proofs.Ytaaelhhiceildaa.ob, Value.ownBlock] at hx; subst hx; simp; exact fun e => HGG.out.2 e.symm)
    have HBK := Lib.hid hbk
    have c0 : W0.cell? ⟨b, 0, none⟩ = some (.slice (some ⟨g, 0, none⟩) L.length cap) := hbk.cell 0
    have c2 : W0.cell? ⟨b, 2, none⟩ = some (.map (some g')) := hbk.cell 2
    have f0 := hbk.fz 0
    have hbl := hbk.lt
    have hsz := HC.out.size
    by_cases hlt : k < L.length
    · have hlt' : (k : Int) < (L.length : Int) := by omega
      have key : ∀ j, j < 11 → W0.cell? ⟨g, k * 11 + j, none⟩ = (slC L[k])[j]? := fun j hj => by
        rw [hrow.cellAt (k * 11 + j) (by omega), flat_at slC 11 slC_len L k j hlt hj]
      have s0 : W0.cell? ⟨g, k * 11, none⟩ = some (.int .i64 L[k].key.k) := key 0 (by omega)
      have s1 : W0.cell? ⟨g, k * 11 + 1, none⟩ = some (.int .i64 L[k].key.p) := key 1 (by omega)
      have s2 : W0.cell? ⟨g, k * 11 + 2, none⟩ = some (.int .i64 L[k].key.q) := key 2 (by omega)
      have s3 : W0.cell? ⟨g, k * 11 + 3, none⟩ = some (.string L[k].key.s) := key 3 (by omega)
      have s4 : W0.cell? ⟨g, k * 11 + 4, none⟩ = some (.int .i64 L[k].key.r) := key 4 (by omega)
      have s5 : W0.cell? ⟨g, k * 11 + 5, none⟩ = some (.int .i64 L[k].val.k) := key 5 (by omega)
      have s6 : W0.cell? ⟨g, k * 11 + 6, none⟩ = some (.int .i64 L[k].val.p) := key 6 (by omega)
      have s7 : W0.cell? ⟨g, k * 11 + 7, none⟩ = some (.int .i64 L[k].val.q) := key 7 (by omega)
      have s8 : W0.cell? ⟨g, k * 11 + 8, none⟩ = some (.string L[k].val.s) := key 8 (by omega)
      have s9 : W0.cell? ⟨g, k * 11 + 9, none⟩ = some (.int .i64 L[k].val.r) := key 9 (by omega)
      have s10 : W0.cell? ⟨g, k * 11 + 10, none⟩ = some (.int .i64 (L[k].bh : Int)) := key 10 (by omega)
      clear key hrow hbk
      obtain ⟨hln1, hln2⟩ := kept_len L k
      have HLN := Lib.hid hln2
      obtain ⟨l, hl1, hl2, hl3⟩ := HM.out
      cases hlv : liveB L[k] with
      | true =>
        have hz : ((L[k].bh : Int) == 0) = true := by have := (liveB_iff _).1 hlv; rw [this]; rfl
        have HDL := Lib.hid (dl_live HI.out hlt hlv)
        have HST := Lib.hid ((kept_step hlt).trans (if_pos hlv))
        have HU : Hid (Uniq (putM l L[k].key ((kept (L.take k)).length : Int)) ∧ ∀ x, look (putM l L[k].key ((kept (L.take k)).length : Int)) x = dlF L (k + 1) x) := Lib.hid ⟨uniq_put _ _ _ hl2, fun x => (look_put _ _ x _).trans (by rw [hl1 x]; exact (HDL.out x).symm)⟩
        have hm3 : Mp g' l (W0.alloc (.cells #[.int .i64 L[k].key.k, .int .i64 L[k].key.p, .int .i64 L[k].key.q, .string L[k].key.s, .int .i64 L[k].key.r, .int .i64 L[k].val.k, .int .i64 L[k].val.p, .int .i64 L[k].val.q, .string L[k].val.s, .int .i64 L[k].val.r, .int .i64 (L[k].bh : Int)] 78)).drew := hl3.ch (((Ch.refl [] W0).alloc _).drew) (by simp)
        obtain ⟨w2, hr2, hm2, hc2⟩ := put_run hm3 L[k].key ((kept (L.take k)).length : Int)
        have HM2 := Lib.hid hm2
        have HC2 : Hid (Ch [g'] W0 w2) := Lib.hid ((((Ch.refl [g'] W0).alloc _).drew).trans hc2)
        have hc2' := hc2
        clear hl1 hl2 hl3 hm3 hm2 hln1 hln2 hlv
        go_upto_region 5 with fail
        go_region
        have hbox : Blk 78 W0.heap.size (slA L[k]) w2 := ((Blk.new W0 78 (slA L[k]) _ rfl).ch ((Ch.refl [g'] _).drew.trans hc2') (by simp; have := HGL.out; omega))
        have t0 : w2.cell? ⟨W0.heap.size, 0, none⟩ = some (.int .i64 L[k].key.k) := hbox.cell 0
        have t1 : w2.cell? ⟨W0.heap.size, 1, none⟩ = some (.int .i64 L[k].key.p) := hbox.cell 1
        have t2 : w2.cell? ⟨W0.heap.size, 2, none⟩ = some (.int .i64 L[k].key.q) := hbox.cell 2
        have t3 : w2.cell? ⟨W0.heap.size, 3, none⟩ = some (.string L[k].key.s) := hbox.cell 3
        have t4 : w2.cell? ⟨W0.heap.size, 4, none⟩ = some (.int .i64 L[k].key.r) := hbox.cell 4
        have t5 : w2.cell? ⟨W0.heap.size, 5, none⟩ = some (.int .i64 L[k].val.k) := hbox.cell 5
        have t6 : w2.cell? ⟨W0.heap.size, 6, none⟩ = some (.int .i64 L[k].val.p) := hbox.cell 6
        have t7 : w2.cell? ⟨W0.heap.size, 7, none⟩ = some (.int .i64 L[k].val.q) := hbox.cell 7
        have t8 : w2.cell? ⟨W0.heap.size, 8, none⟩ = some (.string L[k].val.s) := hbox.cell 8
        have t9 : w2.cell? ⟨W0.heap.size, 9, none⟩ = some (.int .i64 L[k].val.r) := hbox.cell 9
        have t10 : w2.cell? ⟨W0.heap.size, 10, none⟩ = some (.int .i64 (L[k].bh : Int)) := hbox.cell 10
        have hz2 := HC2.out.size
        have hbz2 := hbox.lt
        clear hbox hc2' c0 c2 f0 s0 s1 s2 s3 s4 s5 s6 s7 s8 s9 s10
        have HH : Hid ((w2.alloc (.cells #[.int .i64 L[k].key.k, .int .i64 L[k].key.p, .int .i64 L[k].key.q, .string L[k].key.s, .int .i64 L[k].key.r, .int .i64 L[k].val.k, .int .i64 L[k].val.p, .int .i64 L[k].val.q, .string L[k].val.s, .int .i64 L[k].val.r, .int .i64 (L[k].bh : Int)] 78)).ownsRow w.heap.size 78 11 (.slice p3 (kept (L.take k)).length c3) (kept (L.take k)).length ((kept (L.take k)).flatMap slC)) := Lib.hid ((HC2.out.trans ((Ch.refl [g'] w2).alloc _)).ownB HV.out (fun x hx => by have := own_lo HV.out hx; have := HGL.out; simp; omega))
        generalize hN : (kept (L.take k)).length = N at *
        have HN := Lib.hid hN
        clear hN
        go_wp2_with (at_builtin; refine wpList_append_own_at _ rfl _ _ 69 rfl w.heap.size 78 i0 (.agg #[.int .i64 0, .int .i64 0, .int .i64 0, .string ⟨#[]⟩, .int .i64 0, .int .i64 0, .int .i64 0, .int .i64 0, .string ⟨#[]⟩, .int .i64 0, .int .i64 0]) 11 104 Try.underlying69 hi0 jz0 jz1 jz2 rfl (by decide) _ _ _ rfl HH.out ⟨w2.heap.size, 0, none⟩ 1 1 (slC L[k]) rfl rfl (slC_at L[k] _ _ rfl) (slC_one _) (by unfold maxLen; have := HLN.out; have := HL.out; omega) (by have := HLN.out; have := HL.out; omega) (by simp; omega) ?_)
        intro v5 w5 ho5 hg5 _ _
        obtain ⟨p5, c5, rfl⟩ := ownB_form ho5
        have hal : Ch [g'] W0 (w2.alloc (.cells #[.int .i64 L[k].key.k, .int .i64 L[k].key.p, .int .i64 L[k].key.q, .string L[k].key.s, .int .i64 L[k].key.r, .int .i64 L[k].val.k, .int .i64 L[k].val.p, .int .i64 L[k].val.q, .string L[k].val.s, .int .i64 L[k].val.r, .int .i64 (L[k].bh : Int)] 78)) := HC2.out.trans ((Ch.refl [g'] w2).alloc _)
        have hgr : Ch (ob (.slice p3 N c3)) (w2.alloc (.cells #[.int .i64 L[k].key.k, .int .i64 L[k].key.p, .int .i64 L[k].key.q, .string L[k].key.s, .int .i64 L[k].key.r, .int .i64 L[k].val.k, .int .i64 L[k].val.p, .int .i64 L[k].val.q, .string L[k].val.s, .int .i64 L[k].val.r, .int .i64 (L[k].bh : Int)] 78)) w5 := Ch.of_grown hg5 (fun x e => mem_ob.2 e)
        have HC5 : Hid (Ch [g'] w w5) := Lib.hid ((HC.out.trans hal).fresh (fun x hx => (own_lo HH.out hx).1) hgr)
        have HO5 : Hid (w5.ownsRow w.heap.size 78 11 (.slice p5 (N + 1) c5) (kept (L.take (k + 1))).length ((kept (L.take (k + 1))).flatMap slC)) := Lib.hid (by
          rw [HST.out, List.length_append, List.flatMap_append, HN.out]; simpa using ho5)
        have HM5 : Hid (∃ l, (∀ x, look l x = dlF L (k + 1) x) ∧ Uniq l ∧ Mp g' l w5) := Lib.hid ⟨_, HU.out.2, HU.out.1, (HM2.out.ch ((Ch.refl [] w2).alloc _) (by simp)).ch hgr (fun hx => by have := (own_lo HH.out hx).1; have := HGL.out; omega)⟩
        clear ho5 hg5 hal hgr
        go_wp2
        go_roundw
        case rel => exact ⟨k + 1, p5, c5, by omega, by rw [HST.out, List.length_append, HN.out]; rfl, by go_num, by have := HO5.out; rw [show N + 1 = (kept (L.take (k + 1))).length from by rw [HST.out, List.length_append, HN.out]; rfl] at this; exact Lib.hid this, HM5, HC5⟩
        case measure => simp [intOf]; omega
      | false =>
        have hz : ((L[k].bh : Int) == 0) = false := by
          have : L[k].bh ≠ 0 := fun e => by rw [(liveB_iff _).2 e] at hlv; cases hlv
          rw [beq_eq_false_iff_ne]; omega
        obtain ⟨j, hj1, hj2, hj3⟩ := dl_gone hlt hlv
        have HST := Lib.hid ((kept_step hlt).trans (if_neg (by rw [hlv]; decide)))
        have LK : ∀ n, (Instr.lookup 70 (.map (some g')) (.agg #[.int .i64 L[k].key.k, .int .i64 L[k].key.p, .int .i64 L[k].key.q, .string L[k].key.s, .int .i64 L[k].key.r]) false).run Try.prog ((W0.alloc (.cells #[.int .i64 L[k].key.k, .int .i64 L[k].key.p, .int .i64 L[k].key.q, .string L[k].key.s, .int .i64 L[k].key.r, .int .i64 L[k].val.k, .int .i64 L[k].val.p, .int .i64 L[k].val.q, .string L[k].val.s, .int .i64 L[k].val.r, .int .i64 (L[k].bh : Int)] 78)).drewN n) = .ok (.int .i64 (j : Int)) ((W0.alloc (.cells #[.int .i64 L[k].key.k, .int .i64 L[k].key.p, .int .i64 L[k].key.q, .string L[k].key.s, .int .i64 L[k].key.r, .int .i64 L[k].val.k, .int .i64 L[k].val.p, .int .i64 L[k].val.q, .string L[k].val.s, .int .i64 L[k].val.r, .int .i64 (L[k].bh : Int)] 78)).drewN n) := fun n => by
          have := (look_run (hl3.ch (((Ch.refl [] W0).alloc (.cells #[.int .i64 L[k].key.k, .int .i64 L[k].key.p, .int .i64 L[k].key.q, .string L[k].key.s, .int .i64 L[k].key.r, .int .i64 L[k].val.k, .int .i64 L[k].val.p, .int .i64 L[k].val.q, .string L[k].val.s, .int .i64 L[k].val.r, .int .i64 (L[k].bh : Int)] 78)).drewN n) (by simp)) L[k].key).2
          rw [hl1, hj2] at this
          exact this
        have HBX : Hid (∀ n, Blk 78 W0.heap.size (slA L[k]) ((W0.alloc (.cells #[.int .i64 L[k].key.k, .int .i64 L[k].key.p, .int .i64 L[k].key.q, .string L[k].key.s, .int .i64 L[k].key.r, .int .i64 L[k].val.k, .int .i64 L[k].val.p, .int .i64 L[k].val.q, .string L[k].val.s, .int .i64 L[k].val.r, .int .i64 (L[k].bh : Int)] 78)).drewN n)) := Lib.hid fun n => (Blk.new W0 78 (slA L[k]) _ rfl).ch ((Ch.refl [] _).drewN n) (by simp)
        have HCN : Hid (∀ n, Ch [g'] W0 ((W0.alloc (.cells #[.int .i64 L[k].key.k, .int .i64 L[k].key.p, .int .i64 L[k].key.q, .string L[k].key.s, .int .i64 L[k].key.r, .int .i64 L[k].val.k, .int .i64 L[k].val.p, .int .i64 L[k].val.q, .string L[k].val.s, .int .i64 L[k].val.r, .int .i64 (L[k].bh : Int)] 78)).drewN n)) := Lib.hid fun n => ((Ch.refl [g'] W0).alloc _).drewN n
        have HL3 := Lib.hid hl3
        have HL2 := Lib.hid hl2
        have HJ3 := Lib.hid hj3
        have HL1 := Lib.hid hl1
        by_cases e : j = k
        · have ej : ((j : Int) == (k : Int)) = true := by rw [beq_iff_eq, e]
          have HJ : Hid (j = k) := Lib.hid e
          clear hl1 hl2 hl3 hj1 hj2 hj3 hln1 hln2 hlv e
          go_upto_region 7 with fail
          go_quiet (fail)
          go_upto_region 8 with fail
          go_name_world V hV
          have HCV : Hid (Ch [g'] W0 V) := Lib.hid (by rw [← hV]; exact HCN.out _)
          have hbox : Blk 78 W0.heap.size (slA L[k]) V := by rw [← hV]; exact HBX.out _
          have hmv : Mp g' l V.drew := (HL3.out.ch (S := []) (by rw [← hV]; exact ((Ch.refl [] W0).alloc _).drewN _) (by simp)).ch (Ch.refl [] V).drew (by simp)
          obtain ⟨w2, hr2, hm2, hc2⟩ := del_run hmv L[k].key 0
          have t0 : V.cell? ⟨W0.heap.size, 0, none⟩ = some (.int .i64 L[k].key.k) := hbox.cell 0
          have t1 : V.cell? ⟨W0.heap.size, 1, none⟩ = some (.int .i64 L[k].key.p) := hbox.cell 1
          have t2 : V.cell? ⟨W0.heap.size, 2, none⟩ = some (.int .i64 L[k].key.q) := hbox.cell 2
          have t3 : V.cell? ⟨W0.heap.size, 3, none⟩ = some (.string L[k].key.s) := hbox.cell 3
          have t4 : V.cell? ⟨W0.heap.size, 4, none⟩ = some (.int .i64 L[k].key.r) := hbox.cell 4
          have hbv : Blk 72 b #[.slice (some ⟨g, 0, none⟩) L.length cap, .int .i64 (cnt L), .map (some g')] V := HBK.out.ch HCV.out (by simp; exact fun e => HGG.out.1 e.symm)
          have v2 : V.cell? ⟨b, 2, none⟩ = some (.map (some g')) := hbv.cell 2
          have HC2 : Hid (Ch [g'] W0 w2) := Lib.hid ((HCV.out.drew).trans hc2)
          have HM2 : Hid (∃ l, (∀ x, look l x = dlF L (k + 1) x) ∧ Uniq l ∧ Mp g' l w2) := Lib.hid ⟨_, fun x => (look_del _ _ x HL2.out).trans (by
            have := HJ3.out x
            by_cases hx : x = L[k].key
            · rw [if_pos hx, this, if_pos ⟨hx, HJ.out⟩]
            · rw [if_neg hx, this, if_neg (fun e => hx e.1)]; exact HL1.out x), uniq_del _ _ HL2.out, hm2⟩
          have HO5 : Hid (w2.ownsRow w.heap.size 78 11 (.slice p3 (kept (L.take (k + 1))).length c3) (kept (L.take (k + 1))).length ((kept (L.take (k + 1))).flatMap slC)) := Lib.hid (by
            rw [HST.out]; exact HC2.out.ownB HV.out (fun x hx => by have := own_lo HV.out hx; have := HGL.out; simp; omega))
          have HC5 := Lib.hid (HC.out.trans HC2.out)
          clear hbox hmv hm2 hc2 hbv c0 c2 f0 s0 s1 s2 s3 s4 s5 s6 s7 s8 s9 s10 hV LK
          go_region
          go_wp2
          go_roundw
          case rel => exact ⟨k + 1, p3, c3, by omega, by rw [HST.out], by go_num, HO5, HM2, HC5⟩
          case measure => simp [intOf]; omega
        · have ej : ((j : Int) == (k : Int)) = false := by rw [beq_eq_false_iff_ne]; omega
          have HJ : Hid (j ≠ k) := Lib.hid e
          have HM2 : Hid (∀ W, Ch [] W0 W → ∃ l, (∀ x, look l x = dlF L (k + 1) x) ∧ Uniq l ∧ Mp g' l W) := Lib.hid fun W hc => ⟨l, fun x => by rw [HJ3.out x, if_neg (fun e => HJ.out e.2)]; exact HL1.out x, HL2.out, HL3.out.ch hc (by simp)⟩
          have HW : Hid (∀ n, Ch [] W0 ((W0.alloc (.cells #[.int .i64 L[k].key.k, .int .i64 L[k].key.p, .int .i64 L[k].key.q, .string L[k].key.s, .int .i64 L[k].key.r, .int .i64 L[k].val.k, .int .i64 L[k].val.p, .int .i64 L[k].val.q, .string L[k].val.s, .int .i64 L[k].val.r, .int .i64 (L[k].bh : Int)] 78)).drewN n)) := Lib.hid fun n => ((Ch.refl [] W0).alloc _).drewN n
          clear hl1 hl2 hl3 hj1 hj2 hj3 hln1 hln2 hlv e
          go_upto_region 7 with fail
          go_quiet (fail)
          go_wp2
          go_roundw
          case rel => exact ⟨k + 1, p3, c3, by omega, by rw [HST.out], by go_num, Lib.hid (by rw [HST.out]; exact (HCN.out _).ownB HV.out (fun x hx => by have := own_lo HV.out hx; have := HGL.out; simp; omega)), Lib.hid (HM2.out _ (HW.out _)), Lib.hid (HC.out.trans (HCN.out _))⟩
          case measure => simp [intOf]; omega
    · have hlt' : ¬ (k : Int) < (L.length : Int) := by omega
      have hkl : L.take k = L := by rw [show k = L.length by omega, List.take_length]
      have hke : k = L.length := by omega
      have HE : Hid (L.take k = L ∧ k = L.length) := Lib.hid ⟨hkl, hke⟩
      have f0' := f0
      obtain ⟨l, hl1, hl2, hl3⟩ := HM.out
      have HF : Hid ((∃ v', Om B b v' (.map (some g')) (kept L) (W0.setCell ⟨b, 0, none⟩ (.slice p3 (kept (L.take k)).length c3)) ∧ ∀ x ∈ omS b v' (.map (some g')), x ∈ omS b (.slice (some ⟨g, 0, none⟩) L.length cap) (.map (some g')) ∨ w.heap.size ≤ x) ∧ Ch (omS b (.slice (some ⟨g, 0, none⟩) L.length cap) (.map (some g'))) w (W0.setCell ⟨b, 0, none⟩ (.slice p3 (kept (L.take k)).length c3))) := Lib.hid (by
        have hs : Ch [b] W0 (W0.setCell ⟨b, 0, none⟩ (.slice p3 (kept (L.take k)).length c3)) := (Ch.refl [b] W0).set b 0 _ (.inl (by simp))
        refine ⟨⟨.slice p3 (kept (L.take k)).length c3, ⟨?_, HO.out.lo, ?_, ⟨l, ?_, hl2, .inr ⟨g', rfl, hgB, hl3.ch hs (by simp; exact HGG.out.1)⟩⟩, inv_kept HI.out⟩, ?_⟩, ?_⟩
        · have := HBK.out.set 0 (.slice p3 (kept (L.take k)).length c3)
          rw [cnt_kept]
          exact this
        · have := hs.ownB HV.out (fun x hx => by have h1 := own_lo HV.out hx; have h2 := HO.out.blk.lt; simp; omega)
          rw [HE.out.1] at this ⊢
          obtain ⟨q1, q2⟩ := this
          refine ⟨q1, q2.imp id ?_⟩
          rintro ⟨x, cp, cur, r1, r2, r3⟩
          exact ⟨x, cp, cur, r1, Nat.le_trans hBw r2, r3⟩
        · intro x
          rw [hl1 x, HE.out.2]; exact dl_end HI.out x
        · intro x hx
          simp only [omS, List.mem_cons, List.mem_append] at hx ⊢
          rcases hx with hx | hx | hx
          · exact .inl (.inl hx)
          · exact .inr (own_lo HV.out hx).1
          · exact .inl (.inr (.inr hx))
        · exact (HC.out.mono (T := omS b (.slice (some ⟨g, 0, none⟩) L.length cap) (.map (some g'))) (by simp [omS, mb])).trans (hs.mono (by simp [omS])))
      clear hkl hke hl1 hl2 hl3 f0'
      go_wp2
      go_end0
      exact ⟨rfl, HF.out.1, HF.out.2⟩
end Go.Proofs.Ytaaelhhiceildaa
